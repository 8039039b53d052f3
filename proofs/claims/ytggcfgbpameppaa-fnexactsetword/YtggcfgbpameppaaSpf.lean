/-
  Whether a font can be: the specification.
-/
import Derived.Test.YtggcfgbpameppaaFob
namespace Go.Proofs.Ytggcfgbpameppaa
open Go.RowKit Go.Maps
set_option linter.unusedVariables false
set_option linter.unusedSimpArgs false

set_option maxRecDepth 20000 in
set_option maxHeartbeats 16000000 in
theorem specFont_any {f : Fo} {vg vp : Value} {gs ps : List Q4} {w : World} (h : TwoQ w vg vp gs ps) (hs : f.s.size ≤ 1048576) (hg : gs.length ≤ 1048576) (hp : ps.length ≤ 1048576) :
    Calls Try.prog 8 #[foV f vg vp] w fun e w' => e = .returned (.bool (fontB f gs ps)) ∧ Below w.heap.size w w' := by
  have HX := hideP h
  obtain ⟨a1, c1, rfl⟩ := h.g.shape
  obtain ⟨a2, c2, rfl⟩ := h.p.shape
  obtain ⟨n1, hn1⟩ : ∃ n, n = gs.length := ⟨_, rfl⟩
  obtain ⟨n2, hn2⟩ : ∃ n, n = ps.length := ⟨_, rfl⟩
  rw [← hn1, ← hn2] at HX
  rw [← hn1, ← hn2]
  have HN := hideP (And.intro hn1 hn2)
  have hb1 : n1 ≤ 1048576 := by omega
  have hb2 : n2 ≤ 1048576 := by omega
  clear h hg hp
  obtain ⟨s, g0, g1, g2, g3, g4, q, r⟩ := f
  obtain ⟨z, hz⟩ : ∃ z, z = s.size := ⟨_, rfl⟩
  have hzs : s.size = z := hz.symm
  obtain ⟨gb, hgb⟩ : ∃ b, b = gsB gs := ⟨_, rfl⟩
  obtain ⟨pb, hpb⟩ : ∃ b, b = psB gs ps := ⟨_, rfl⟩
  obtain ⟨sb, hsb⟩ : ∃ b, b = glB g0 g1 g2 g3 g4 := ⟨_, rfl⟩
  obtain ⟨qb, hqb⟩ : ∃ b, b = szB q := ⟨_, rfl⟩
  obtain ⟨rb, hrb⟩ : ∃ b, b = szB r := ⟨_, rfl⟩
  obtain ⟨R, hR⟩ : ∃ R, R = fontB ⟨s, g0, g1, g2, g3, g4, q, r⟩ gs ps := ⟨_, rfl⟩
  have HR : Hid (R = (decide (z ≤ 40) && decide (n2 ≤ 2000) && gb && pb && (sb && decide (0 ≤ g0) && decide (g2 = 0) && decide (g4 = 0)) && qb && rb)) := hideP (by rw [hR, hz, hn2, hgb, hpb, hsb, hqb, hrb]; rfl)
  rw [← hR]
  dsimp only at hs
  rw [hzs] at hs
  have HGB := hideP hgb
  have HPB := hideP hpb
  have CQ : Hid (∀ W, Calls Try.prog 29 #[.int .i64 q] W fun e w' => e = .returned (.bool qb) ∧ w' = W) := hideP (fun W => by rw [hqb]; exact specSize_any q W)
  have CR : Hid (∀ W, Calls Try.prog 29 #[.int .i64 r] W fun e w' => e = .returned (.bool rb) ∧ w' = W) := hideP (fun W => by rw [hrb]; exact specSize_any r W)
  have CG : Hid (∀ W, Calls Try.prog 30 #[glueV g0 g1 g2 g3 g4] W fun e w' => e = .returned (.bool sb) ∧ Below W.heap.size W w') := hideP (fun W => by rw [hsb]; exact specGlueOk_any g0 g1 g2 g3 g4 W)
  clear hz hgb hpb hsb hqb hrb hR hn1 hn2
  simp only [foV]
  simp only [glueV] at CG
  by_cases h1 : z ≤ 40
  rotate_left
  · have d1 : decide (40 < (z : Int)) = true := by simp; omega
    have HE : Hid (R = false) := hideP (by rw [HR.out]; simp [h1])
    clear h1
    go_enter Try.func8, Try.ntmps8
    go_wp2
    go_ret
    exact ⟨retB HE.out.symm, below1 _ _⟩
  have d1 : decide (40 < (z : Int)) = false := by simp; omega
  by_cases h2 : n1 ≤ 256
  rotate_left
  · have d2 : decide (256 < (n1 : Int)) = true := by simp; omega
    have HE : Hid (R = false) := hideP (by rw [HR.out, HGB.out, gs_long (by rw [← HN.out.1]; omega)]; simp)
    clear h1 h2
    go_enter Try.func8, Try.ntmps8
    go_wp2
    go_ret
    exact ⟨retB HE.out.symm, below1 _ _⟩
  have d2 : decide (256 < (n1 : Int)) = false := by simp; omega
  by_cases h3 : n2 ≤ 2000
  rotate_left
  · have d3 : decide (2000 < (n2 : Int)) = true := by simp; omega
    have HE : Hid (R = false) := hideP (by rw [HR.out]; simp [h3])
    clear h1 h2 h3
    go_enter Try.func8, Try.ntmps8
    go_wp2
    go_ret
    exact ⟨retB HE.out.symm, below1 _ _⟩
  have d3 : decide (2000 < (n2 : Int)) = false := by simp; omega
  have HR2 : Hid (R = (gb && pb && (sb && decide (0 ≤ g0) && decide (g2 = 0) && decide (g4 = 0)) && qb && rb)) := hideP (by rw [HR.out]; simp [h1, h3])
  clear h1 h2 h3 HR
  cases qb with
  | false =>
    have HE : Hid (R = false) := hideP (by rw [HR2.out]; simp)
    go_enter Try.func8, Try.ntmps8
    go_wp2_with (go_at_call 29; refine (CQ.out _).mono ?_; rintro e w' ⟨rfl, rfl⟩)
    go_ret
    exact ⟨retB HE.out.symm, below1 _ _⟩
  | true =>
  cases rb with
  | false =>
    have HE : Hid (R = false) := hideP (by rw [HR2.out]; simp)
    go_enter Try.func8, Try.ntmps8
    go_wp2_with (first | (go_at_call_of 29 (Value.int IntKind.i64 q); refine (CQ.out _).mono ?_; rintro e w' ⟨rfl, rfl⟩) | (go_at_call_of 29 (Value.int IntKind.i64 r); refine (CR.out _).mono ?_; rintro e w' ⟨rfl, rfl⟩))
    go_ret
    exact ⟨retB HE.out.symm, below1 _ _⟩
  | true =>
  have W0 : Hid (BoxF (w.alloc (.cells #[Value.string s, Value.slice a1 n1 c1, Value.slice a2 n2 c2, Value.int IntKind.i64 g0, Value.int IntKind.i64 g1, Value.int IntKind.i64 g2, Value.int IntKind.i64 g3, Value.int IntKind.i64 g4, Value.int IntKind.i64 q, Value.int IntKind.i64 r] 34)) w.heap.size #[Value.string s, Value.slice a1 n1 c1, Value.slice a2 n2 c2, Value.int IntKind.i64 g0, Value.int IntKind.i64 g1, Value.int IntKind.i64 g2, Value.int IntKind.i64 g3, Value.int IntKind.i64 g4, Value.int IntKind.i64 q, Value.int IntKind.i64 r] ∧ Below w.heap.size w (w.alloc (.cells #[Value.string s, Value.slice a1 n1 c1, Value.slice a2 n2 c2, Value.int IntKind.i64 g0, Value.int IntKind.i64 g1, Value.int IntKind.i64 g2, Value.int IntKind.i64 g3, Value.int IntKind.i64 g4, Value.int IntKind.i64 q, Value.int IntKind.i64 r] 34))) := hideP ⟨heap_alloc_new _ _, below1 _ _⟩
  go_enter Try.func8, Try.ntmps8
  go_wp2_with (first | (go_at_call_of 29 (Value.int IntKind.i64 q); refine (CQ.out _).mono ?_; rintro e w' ⟨rfl, rfl⟩) | (go_at_call_of 29 (Value.int IntKind.i64 r); refine (CR.out _).mono ?_; rintro e w' ⟨rfl, rfl⟩))
  refine (CG.out _).mono ?_
  rintro e w1 ⟨rfl, hbw⟩
  have W1 : Hid (BoxF w1 w.heap.size #[Value.string s, Value.slice a1 n1 c1, Value.slice a2 n2 c2, Value.int IntKind.i64 g0, Value.int IntKind.i64 g1, Value.int IntKind.i64 g2, Value.int IntKind.i64 g3, Value.int IntKind.i64 g4, Value.int IntKind.i64 q, Value.int IntKind.i64 r] ∧ Below w.heap.size w w1) := hideP ⟨W0.out.1.below hbw, below_more W0.out.2 hbw W0.out.2.size⟩
  clear hbw W0 CG CQ CR
  obtain ⟨p0, p1, p2, p3, p4, p5, p6, p7, p8, p9⟩ := W1.out.1.at
  have hz1 := W1.out.1.lt
  cases sb with
  | false =>
    have HE : Hid (R = false) := hideP (by rw [HR2.out]; simp)
    go_wp2
    go_ret
    exact ⟨retB HE.out.symm, W1.out.2⟩
  | true =>
  by_cases h4 : 0 ≤ g0
  rotate_left
  · have h4' : decide (g0 < 0) = true := by simp; omega
    have HE : Hid (R = false) := hideP (by rw [HR2.out]; simp [h4])
    clear h4
    go_wp2
    go_ret
    exact ⟨retB HE.out.symm, W1.out.2⟩
  have h4' : decide (g0 < 0) = false := by simp; omega
  by_cases h5 : g2 = 0
  rotate_left
  · have h5a : (g2 != 0) = true := by simp [h5]
    have h5b : decide (g2 = 0) = false := by simp [h5]
    have h5c : (g2 == 0) = false := by simp [h5]
    have HE : Hid (R = false) := hideP (by rw [HR2.out]; simp [h5])
    clear h4 h5
    go_wp2
    go_ret
    exact ⟨retB HE.out.symm, W1.out.2⟩
  subst h5
  by_cases h6 : g4 = 0
  rotate_left
  · have h6a : (g4 != 0) = true := by simp [h6]
    have h6b : decide (g4 = 0) = false := by simp [h6]
    have h6c : (g4 == 0) = false := by simp [h6]
    have HE : Hid (R = false) := hideP (by rw [HR2.out]; simp [h6])
    clear h4 h6
    go_wp2
    go_ret
    exact ⟨retB HE.out.symm, W1.out.2⟩
  subst h6
  have HR3 : Hid (R = (gb && pb)) := hideP (by rw [HR2.out]; simp [h4])
  clear h4 HR2
  go_wp2
  clear p0 p1 p2 p3 p4 p5 p6 p7 p8 p9 d1 d2 d3 h4'
  go_loopw [3] (fun i wr => ∃ k : Nat, k ≤ n1 ∧ i = .int .i64 k ∧ Hid (∀ j, j < k → gB (gs.getD j Q4.none) = true) ∧ Hid (∀ j, j + 1 < k → glB2 (gs.getD j Q4.none) (gs.getD (j + 1) Q4.none) = true) ∧ Hid (BoxF wr w.heap.size #[Value.string s, Value.slice a1 n1 c1, Value.slice a2 n2 c2, Value.int IntKind.i64 g0, Value.int IntKind.i64 g1, Value.int IntKind.i64 0, Value.int IntKind.i64 g3, Value.int IntKind.i64 0, Value.int IntKind.i64 q, Value.int IntKind.i64 r] ∧ Below w.heap.size w wr)) (fun i _ => n1 - (intOf i).toNat)
  case atStart => exact ⟨0, by omega, rfl, hideP (fun j hj => by omega), hideP (fun j hj => by omega), W1⟩
  case round =>
    obtain ⟨k, hk, rfl, HJ, HA, HW⟩ := hrel
    clear W1
    obtain ⟨p0, p1, p2, p3, p4, p5, p6, p7, p8, p9⟩ := HW.out.1.at
    have hzB := HW.out.1.lt
    by_cases hlt : k < n1
    · have hki : (k : Int) < (n1 : Int) := by omega
      have HKL : Hid (k < gs.length) := hideP (by rw [← HN.out.1]; exact hlt)
      have BN : Hid (∀ o m, BoxF ((wr.alloc o).drewN m) w.heap.size #[Value.string s, Value.slice a1 n1 c1, Value.slice a2 n2 c2, Value.int IntKind.i64 g0, Value.int IntKind.i64 g1, Value.int IntKind.i64 0, Value.int IntKind.i64 g3, Value.int IntKind.i64 0, Value.int IntKind.i64 q, Value.int IntKind.i64 r] ∧ Below w.heap.size w ((wr.alloc o).drewN m)) := hideP (fun o m => ⟨HW.out.1.below (below_drewN (below1 _ o) m), below_drewN (HW.out.2.alloc HW.out.2.size o) m⟩)
      obtain ⟨b, off, hao, hb, _, e0, e1, e2, e3⟩ := HX.out.g.cells HW.out.2 hlt
      obtain ⟨km, hkm0⟩ : ∃ m, m = k - 1 := ⟨_, rfl⟩
      obtain ⟨⟨ya, yb, yc, yd⟩, hy⟩ : ∃ y, y = gs.getD km Q4.none := ⟨_, rfl⟩
      have HYY := hideP hy
      have PV : 0 < k → IntKind.i64.wrap ((k : Int) - 1) = (km : Int) ∧ Hid (km + 1 = k) ∧ wr.cell? ⟨b, off + km * 4, none⟩ = some (.int .i64 ya) ∧ (km : Int) < (n1 : Int) := fun h => by
        obtain ⟨b', off', hao', _, _, f0, _⟩ := HX.out.g.cells HW.out.2 (k := km) (by omega)
        rw [hao] at hao'
        simp only [Option.some.injEq, Addr.mk.injEq, and_true] at hao'
        obtain ⟨rfl, rfl⟩ := hao'
        rw [← hy] at f0
        exact ⟨by rw [IntKind.wrap_i64]; omega, hideP (by omega), f0, by omega⟩
      clear hy hkm0
      subst hao
      obtain ⟨x, hx⟩ : ∃ x, x = gs.getD k Q4.none := ⟨_, rfl⟩
      rw [← hx] at e0 e1 e2 e3
      have HXX := hideP hx
      clear hx
      obtain ⟨xa, xb, xc, xd⟩ := x
      dsimp only at e0 e1 e2 e3
      obtain ⟨tb, htb⟩ : ∃ t, t = szB xb := ⟨_, rfl⟩
      obtain ⟨tc, htc⟩ : ∃ t, t = szB xc := ⟨_, rfl⟩
      obtain ⟨td, htd⟩ : ∃ t, t = szB xd := ⟨_, rfl⟩
      have C1 : Hid (∀ W, Calls Try.prog 29 #[.int .i64 xb] W fun e w' => e = .returned (.bool tb) ∧ w' = W) := hideP (fun W => by rw [htb]; exact specSize_any xb W)
      have C2 : Hid (∀ W, Calls Try.prog 29 #[.int .i64 xc] W fun e w' => e = .returned (.bool tc) ∧ w' = W) := hideP (fun W => by rw [htc]; exact specSize_any xc W)
      have C3 : Hid (∀ W, Calls Try.prog 29 #[.int .i64 xd] W fun e w' => e = .returned (.bool td) ∧ w' = W) := hideP (fun W => by rw [htd]; exact specSize_any xd W)
      have HG : Hid (gB ⟨xa, xb, xc, xd⟩ = (cdB xa && tb && tc && td)) := hideP (by rw [htb, htc, htd]; rfl)
      clear htb htc htd
      have HBAD : Hid (gB ⟨xa, xb, xc, xd⟩ = false → R = false) := hideP (fun h => by rw [HR3.out, HGB.out, gs_el HKL.out (by rw [← HXX.out]; exact h)]; simp)
      by_cases q1 : 0 ≤ xa
      rotate_left
      · have q1' : decide (xa < 0) = true := by simp; omega
        have HE : Hid (R = false) := hideP (HBAD.out (by rw [HG.out]; simp [cdB, q1]))
        clear q1
        go_wp2_with fail
        go_quiet (fail)
        go_wp2
        go_ret
        exact ⟨retB HE.out.symm, (BN.out _ _).2⟩
      have q1' : decide (xa < 0) = false := by simp; omega
      by_cases q2 : xa ≤ 255
      rotate_left
      · have q2' : decide (255 < xa) = true := by simp; omega
        have HE : Hid (R = false) := hideP (HBAD.out (by rw [HG.out]; simp [cdB, q2]))
        clear q1 q2
        go_wp2_with fail
        go_quiet (fail)
        go_wp2
        go_ret
        exact ⟨retB HE.out.symm, (BN.out _ _).2⟩
      have q2' : decide (255 < xa) = false := by simp; omega
      have HG2 : Hid (gB ⟨xa, xb, xc, xd⟩ = (tb && tc && td)) := hideP (by rw [HG.out, show cdB xa = true by simp [cdB, q1, q2]]; simp)
      clear q1 q2 HG
      by_cases hk0 : k = 0
      · have k1 : decide (0 < (k : Int)) = false := by simp; omega
        have k2 : ¬ 0 < k := by omega
        have HK0 := hideP hk0
        clear hk0
        cases tb with
        | false =>
          have HE : Hid (R = false) := hideP (HBAD.out (by rw [HG2.out]; simp))
          go_wp2_with fail
          go_quiet (first | (go_at_call_of 29 (Value.int IntKind.i64 xb); exact Calls.quiet_of_same (C1.out _)) | (go_at_call_of 29 (Value.int IntKind.i64 xc); exact Calls.quiet_of_same (C2.out _)) | (go_at_call_of 29 (Value.int IntKind.i64 xd); exact Calls.quiet_of_same (C3.out _)))
          go_wp2
          go_ret
          exact ⟨retB HE.out.symm, (BN.out _ _).2⟩
        | true =>
        cases tc with
        | false =>
          have HE : Hid (R = false) := hideP (HBAD.out (by rw [HG2.out]; simp))
          go_wp2_with fail
          go_quiet (first | (go_at_call_of 29 (Value.int IntKind.i64 xb); exact Calls.quiet_of_same (C1.out _)) | (go_at_call_of 29 (Value.int IntKind.i64 xc); exact Calls.quiet_of_same (C2.out _)) | (go_at_call_of 29 (Value.int IntKind.i64 xd); exact Calls.quiet_of_same (C3.out _)))
          go_wp2
          go_ret
          exact ⟨retB HE.out.symm, (BN.out _ _).2⟩
        | true =>
        cases td with
        | false =>
          have HE : Hid (R = false) := hideP (HBAD.out (by rw [HG2.out]; simp))
          go_wp2_with fail
          go_quiet (first | (go_at_call_of 29 (Value.int IntKind.i64 xb); exact Calls.quiet_of_same (C1.out _)) | (go_at_call_of 29 (Value.int IntKind.i64 xc); exact Calls.quiet_of_same (C2.out _)) | (go_at_call_of 29 (Value.int IntKind.i64 xd); exact Calls.quiet_of_same (C3.out _)))
          go_wp2
          go_ret
          exact ⟨retB HE.out.symm, (BN.out _ _).2⟩
        | true =>
        have HOK : Hid (gB ⟨xa, xb, xc, xd⟩ = true) := hideP (by rw [HG2.out]; simp)
        go_wp2_with fail
        go_quiet (first | (go_at_call_of 29 (Value.int IntKind.i64 xb); exact Calls.quiet_of_same (C1.out _)) | (go_at_call_of 29 (Value.int IntKind.i64 xc); exact Calls.quiet_of_same (C2.out _)) | (go_at_call_of 29 (Value.int IntKind.i64 xd); exact Calls.quiet_of_same (C3.out _)))
        go_wp2
        go_roundw
        case rel =>
          refine ⟨k + 1, by omega, by go_num, hideP (fun j hj => ?_), hideP (fun j hj => ?_), hideP (BN.out _ _)⟩
          · by_cases hjk : j = k
            · subst hjk; rw [← HXX.out]; exact HOK.out
            · exact HJ.out j (by omega)
          · exact absurd HK0.out (by omega)
        case measure => simp [intOf]; omega
      · have k1 : (0 : Int) < (k : Int) := by omega
        have k2 : 0 < k := by omega
        obtain ⟨hkm, HKM, f0, hkn⟩ := PV (by omega)
        by_cases q3 : ya < xa
        rotate_left
        · have q3' : decide (xa ≤ ya) = true := by simp; omega
          have HE : Hid (R = false) := hideP (by rw [HR3.out, HGB.out, gs_back (j := km) (by rw [HKM.out]; exact HKL.out) (by rw [HKM.out, ← HXX.out, ← HYY.out]; simp [glB2]; omega)]; simp)
          clear q3
          go_wp2_with fail
          go_quiet (fail)
          go_wp2
          go_ret
          exact ⟨retB HE.out.symm, (BN.out _ _).2⟩
        have q3' : decide (xa ≤ ya) = false := by simp; omega
        have HLT : Hid (glB2 (gs.getD km Q4.none) (gs.getD (km + 1) Q4.none) = true) := hideP (by rw [HKM.out, ← HXX.out, ← HYY.out]; simp [glB2]; exact q3)
        clear q3
        cases tb with
        | false =>
          have HE : Hid (R = false) := hideP (HBAD.out (by rw [HG2.out]; simp))
          go_wp2_with fail
          go_quiet (first | (go_at_call_of 29 (Value.int IntKind.i64 xb); exact Calls.quiet_of_same (C1.out _)) | (go_at_call_of 29 (Value.int IntKind.i64 xc); exact Calls.quiet_of_same (C2.out _)) | (go_at_call_of 29 (Value.int IntKind.i64 xd); exact Calls.quiet_of_same (C3.out _)))
          go_wp2
          go_ret
          exact ⟨retB HE.out.symm, (BN.out _ _).2⟩
        | true =>
        cases tc with
        | false =>
          have HE : Hid (R = false) := hideP (HBAD.out (by rw [HG2.out]; simp))
          go_wp2_with fail
          go_quiet (first | (go_at_call_of 29 (Value.int IntKind.i64 xb); exact Calls.quiet_of_same (C1.out _)) | (go_at_call_of 29 (Value.int IntKind.i64 xc); exact Calls.quiet_of_same (C2.out _)) | (go_at_call_of 29 (Value.int IntKind.i64 xd); exact Calls.quiet_of_same (C3.out _)))
          go_wp2
          go_ret
          exact ⟨retB HE.out.symm, (BN.out _ _).2⟩
        | true =>
        cases td with
        | false =>
          have HE : Hid (R = false) := hideP (HBAD.out (by rw [HG2.out]; simp))
          go_wp2_with fail
          go_quiet (first | (go_at_call_of 29 (Value.int IntKind.i64 xb); exact Calls.quiet_of_same (C1.out _)) | (go_at_call_of 29 (Value.int IntKind.i64 xc); exact Calls.quiet_of_same (C2.out _)) | (go_at_call_of 29 (Value.int IntKind.i64 xd); exact Calls.quiet_of_same (C3.out _)))
          go_wp2
          go_ret
          exact ⟨retB HE.out.symm, (BN.out _ _).2⟩
        | true =>
        have HOK : Hid (gB ⟨xa, xb, xc, xd⟩ = true) := hideP (by rw [HG2.out]; simp)
        go_wp2_with fail
        go_quiet (first | (go_at_call_of 29 (Value.int IntKind.i64 xb); exact Calls.quiet_of_same (C1.out _)) | (go_at_call_of 29 (Value.int IntKind.i64 xc); exact Calls.quiet_of_same (C2.out _)) | (go_at_call_of 29 (Value.int IntKind.i64 xd); exact Calls.quiet_of_same (C3.out _)))
        go_wp2
        go_roundw
        case rel =>
          refine ⟨k + 1, by omega, by go_num, hideP (fun j hj => ?_), hideP (fun j hj => ?_), hideP (BN.out _ _)⟩
          · by_cases hjk : j = k
            · subst hjk; rw [← HXX.out]; exact HOK.out
            · exact HJ.out j (by omega)
          · by_cases hjk : j = km
            · subst hjk; exact HLT.out
            · exact HA.out j (by have := HKM.out; omega)
        case measure => simp [intOf]; omega
    · have hki : ¬ (k : Int) < (n1 : Int) := by omega
      have HGT : Hid (gb = true ∧ AscG gs) := hideP (by
        have hal : AllG gs := fun j hj => HJ.out j (by have := HN.out.1; omega)
        have has : AscG gs := fun j hj => HA.out j (by have := HN.out.1; omega)
        exact ⟨by rw [HGB.out, gs_asc hal]; exact decide_eq_true has, has⟩)
      have HR4 : Hid (R = pb) := hideP (by rw [HR3.out, HGT.out.1]; simp)
      clear HJ HA HR3 HGB
      go_wp2
      clear p0 p1 p2 p3 p4 p5 p6 p7 p8 p9 hzB hki hlt
      go_loopw [5] (fun i wq => ∃ k : Nat, k ≤ n2 ∧ i = .int .i64 k ∧ Hid (∀ j, j < k → pairB gs (ps.getD j Q4.none) = true) ∧ Hid (∀ j, j + 1 < k → plB (ps.getD j Q4.none) (ps.getD (j + 1) Q4.none) = true) ∧ Hid (BoxF wq w.heap.size #[Value.string s, Value.slice a1 n1 c1, Value.slice a2 n2 c2, Value.int IntKind.i64 g0, Value.int IntKind.i64 g1, Value.int IntKind.i64 0, Value.int IntKind.i64 g3, Value.int IntKind.i64 0, Value.int IntKind.i64 q, Value.int IntKind.i64 r] ∧ Below w.heap.size w wq)) (fun i _ => n2 - (intOf i).toNat)
      case atStart => exact ⟨0, by omega, rfl, hideP (fun j hj => by omega), hideP (fun j hj => by omega), HW⟩
      case round =>
        obtain ⟨k, hk, rfl, HJ, HA, HQ⟩ := hrel
        clear HW
        obtain ⟨p0, p1, p2, p3, p4, p5, p6, p7, p8, p9⟩ := HQ.out.1.at
        have hzB := HQ.out.1.lt
        by_cases hlt : k < n2
        · have hki : (k : Int) < (n2 : Int) := by omega
          have HKL : Hid (k < ps.length) := hideP (by rw [← HN.out.2]; exact hlt)
          have HXA : Hid (∀ c W, Below wr.heap.size wr W → Calls Try.prog 32 #[.agg #[Value.string s, Value.slice a1 n1 c1, Value.slice a2 n2 c2, Value.int IntKind.i64 g0, Value.int IntKind.i64 g1, Value.int IntKind.i64 0, Value.int IntKind.i64 g3, Value.int IntKind.i64 0, Value.int IntKind.i64 q, Value.int IntKind.i64 r], .int .i64 c] W fun e w' => e = .returned (.int .i64 (gi gs c)) ∧ Below W.heap.size W w') := hideP (fun c W hW => specGlyph_any (f := ⟨s, g0, g1, 0, g3, 0, q, r⟩) ((HX.out.below HQ.out.2).below hW) (by rw [← HN.out.1]; exact hb1) HGT.out.2)
          have BN : Hid (∀ x, Below wr.heap.size wr x → BoxF x w.heap.size #[Value.string s, Value.slice a1 n1 c1, Value.slice a2 n2 c2, Value.int IntKind.i64 g0, Value.int IntKind.i64 g1, Value.int IntKind.i64 0, Value.int IntKind.i64 g3, Value.int IntKind.i64 0, Value.int IntKind.i64 q, Value.int IntKind.i64 r] ∧ Below w.heap.size w x) := hideP (fun x hx => ⟨HQ.out.1.below hx, below_more HQ.out.2 hx HQ.out.2.size⟩)
          obtain ⟨b, off, hao, hb, hbw, e0, e1, e2, e3⟩ := HX.out.p.cells HQ.out.2 hlt
          obtain ⟨km, hkm0⟩ : ∃ m, m = k - 1 := ⟨_, rfl⟩
          obtain ⟨⟨ya, yb, yc, yd⟩, hy⟩ : ∃ y, y = ps.getD km Q4.none := ⟨_, rfl⟩
          have HYY := hideP hy
          have PV : 0 < k → IntKind.i64.wrap ((k : Int) - 1) = (km : Int) ∧ Hid (km + 1 = k) ∧ wr.cell? ⟨b, off + km * 4, none⟩ = some (.int .i64 ya) ∧ wr.cell? ⟨b, off + km * 4 + 1, none⟩ = some (.int .i64 yb) ∧ wr.cell? ⟨b, off + km * 4 + 2, none⟩ = some (.int .i64 yc) ∧ wr.cell? ⟨b, off + km * 4 + 3, none⟩ = some (.int .i64 yd) ∧ (km : Int) < (n2 : Int) := fun h => by
            obtain ⟨b', off', hao', _, _, f0, f1, f2, f3⟩ := HX.out.p.cells HQ.out.2 (k := km) (by omega)
            rw [hao] at hao'
            simp only [Option.some.injEq, Addr.mk.injEq, and_true] at hao'
            obtain ⟨rfl, rfl⟩ := hao'
            rw [← hy] at f0 f1 f2 f3
            exact ⟨by rw [IntKind.wrap_i64]; omega, hideP (by omega), f0, f1, f2, f3, by omega⟩
          clear hy hkm0
          subst hao
          obtain ⟨x, hx⟩ : ∃ x, x = ps.getD k Q4.none := ⟨_, rfl⟩
          rw [← hx] at e0 e1 e2 e3
          have HXX := hideP hx
          clear hx
          obtain ⟨xa, xb, xc, xd⟩ := x
          dsimp only at e0 e1 e2 e3
          obtain ⟨W, hW⟩ : ∃ W, W = wr.alloc (.cells #[.int .i64 xa, .int .i64 xb, .int .i64 xc, .int .i64 xd] 63) := ⟨_, rfl⟩
          have bW : Below wr.heap.size wr W := by rw [hW]; exact below1 _ _
          have l0 : W.cell? ⟨wr.heap.size, 0, none⟩ = some (.int .i64 xa) := by rw [hW]; simp [go_sem]
          have l1 : W.cell? ⟨wr.heap.size, 1, none⟩ = some (.int .i64 xb) := by rw [hW]; simp [go_sem]
          have l2 : W.cell? ⟨wr.heap.size, 2, none⟩ = some (.int .i64 xc) := by rw [hW]; simp [go_sem]
          have l3 : W.cell? ⟨wr.heap.size, 3, none⟩ = some (.int .i64 xd) := by rw [hW]; simp [go_sem]
          have hWs : wr.heap.size < W.heap.size := by rw [hW]; simp
          have HBB : Hid (∀ x, Below W.heap.size W x → BoxF x w.heap.size #[Value.string s, Value.slice a1 n1 c1, Value.slice (some ⟨b, off, none⟩) n2 c2, Value.int IntKind.i64 g0, Value.int IntKind.i64 g1, Value.int IntKind.i64 0, Value.int IntKind.i64 g3, Value.int IntKind.i64 0, Value.int IntKind.i64 q, Value.int IntKind.i64 r] ∧ Below w.heap.size w x) := hideP (fun x hx => BN.out x (below_more bW hx bW.size))
          have BD : Hid (Below W.heap.size W W.drew) := hideP (Below.refl _ _).drew
          obtain ⟨ha0, hha⟩ : ∃ t, t = hasB gs xa := ⟨_, rfl⟩
          obtain ⟨hb0, hhb⟩ : ∃ t, t = hasB gs xb := ⟨_, rfl⟩
          obtain ⟨hc, hhc⟩ : ∃ t, t = hasB gs xc := ⟨_, rfl⟩
          obtain ⟨za, hza0⟩ : ∃ t, t = gi gs xa := ⟨_, rfl⟩
          obtain ⟨zb, hzb0⟩ : ∃ t, t = gi gs xb := ⟨_, rfl⟩
          obtain ⟨zc, hzc0⟩ : ∃ t, t = gi gs xc := ⟨_, rfl⟩
          have hza : decide (za < 0) = !ha0 := by rw [hza0, hha]; exact gi_neg HGT.out.2 xa
          have hzb : decide (zb < 0) = !hb0 := by rw [hzb0, hhb]; exact gi_neg HGT.out.2 xb
          have hzc : decide (zc < 0) = !hc := by rw [hzc0, hhc]; exact gi_neg HGT.out.2 xc
          have CA : Hid (∀ x, Below W.heap.size W x → Calls Try.prog 32 #[.agg #[Value.string s, Value.slice a1 n1 c1, Value.slice (some ⟨b, off, none⟩) n2 c2, Value.int IntKind.i64 g0, Value.int IntKind.i64 g1, Value.int IntKind.i64 0, Value.int IntKind.i64 g3, Value.int IntKind.i64 0, Value.int IntKind.i64 q, Value.int IntKind.i64 r], .int .i64 xa] x fun e w' => e = .returned (.int .i64 za) ∧ Below x.heap.size x w') := hideP (fun x hx => by rw [hza0]; exact HXA.out xa x (below_more bW hx bW.size))
          have CB : Hid (∀ x, Below W.heap.size W x → Calls Try.prog 32 #[.agg #[Value.string s, Value.slice a1 n1 c1, Value.slice (some ⟨b, off, none⟩) n2 c2, Value.int IntKind.i64 g0, Value.int IntKind.i64 g1, Value.int IntKind.i64 0, Value.int IntKind.i64 g3, Value.int IntKind.i64 0, Value.int IntKind.i64 q, Value.int IntKind.i64 r], .int .i64 xb] x fun e w' => e = .returned (.int .i64 zb) ∧ Below x.heap.size x w') := hideP (fun x hx => by rw [hzb0]; exact HXA.out xb x (below_more bW hx bW.size))
          have CC : Hid (∀ x, Below W.heap.size W x → Calls Try.prog 32 #[.agg #[Value.string s, Value.slice a1 n1 c1, Value.slice (some ⟨b, off, none⟩) n2 c2, Value.int IntKind.i64 g0, Value.int IntKind.i64 g1, Value.int IntKind.i64 0, Value.int IntKind.i64 g3, Value.int IntKind.i64 0, Value.int IntKind.i64 q, Value.int IntKind.i64 r], .int .i64 xc] x fun e w' => e = .returned (.int .i64 zc) ∧ Below x.heap.size x w') := hideP (fun x hx => by rw [hzc0]; exact HXA.out xc x (below_more bW hx bW.size))
          have HP : Hid (pairB gs ⟨xa, xb, xc, xd⟩ = if xc = -1 then ha0 && hb0 && decide (-6553600 ≤ xd ∧ xd ≤ 6553600) else ha0 && hb0 && hc && decide (xd = 0)) := hideP (by rw [hha, hhb, hhc]; rfl)
          have HBAD : Hid (pairB gs ⟨xa, xb, xc, xd⟩ = false → R = false) := hideP (fun h => by rw [HR4.out, HPB.out, ps_el HKL.out (by rw [← HXX.out]; exact h)])
          clear hha hhb hhc hza0 hzb0 hzc0 HXA
          by_cases hk0 : k = 0
          · have k1 : decide (0 < (k : Int)) = false := by simp; omega
            have k2 : ¬ 0 < k := by omega
            have HK0 := hideP hk0
            have Q : Hid (∀ x : World, Below W.heap.size W x → x.cell? ⟨w.heap.size, 0, none⟩ = some (.string s) ∧ x.cell? ⟨w.heap.size, 1, none⟩ = some (.slice a1 n1 c1) ∧ x.cell? ⟨w.heap.size, 2, none⟩ = some (.slice (some ⟨b, off, none⟩) n2 c2) ∧ x.cell? ⟨w.heap.size, 3, none⟩ = some (.int .i64 g0) ∧ x.cell? ⟨w.heap.size, 4, none⟩ = some (.int .i64 g1) ∧ x.cell? ⟨w.heap.size, 5, none⟩ = some (.int .i64 0) ∧ x.cell? ⟨w.heap.size, 6, none⟩ = some (.int .i64 g3) ∧ x.cell? ⟨w.heap.size, 7, none⟩ = some (.int .i64 0) ∧ x.cell? ⟨w.heap.size, 8, none⟩ = some (.int .i64 q) ∧ x.cell? ⟨w.heap.size, 9, none⟩ = some (.int .i64 r) ∧ x.cell? ⟨wr.heap.size, 0, none⟩ = some (.int .i64 xa) ∧ x.cell? ⟨wr.heap.size, 1, none⟩ = some (.int .i64 xb) ∧ x.cell? ⟨wr.heap.size, 2, none⟩ = some (.int .i64 xc) ∧ x.cell? ⟨wr.heap.size, 3, none⟩ = some (.int .i64 xd)) := hideP (fun x hx => ⟨(hx.cell (p := ⟨w.heap.size, 0, none⟩) (Nat.lt_of_lt_of_le hzB bW.size)).trans ((bW.cell (p := ⟨w.heap.size, 0, none⟩) hzB).trans p0), (hx.cell (p := ⟨w.heap.size, 1, none⟩) (Nat.lt_of_lt_of_le hzB bW.size)).trans ((bW.cell (p := ⟨w.heap.size, 1, none⟩) hzB).trans p1), (hx.cell (p := ⟨w.heap.size, 2, none⟩) (Nat.lt_of_lt_of_le hzB bW.size)).trans ((bW.cell (p := ⟨w.heap.size, 2, none⟩) hzB).trans p2), (hx.cell (p := ⟨w.heap.size, 3, none⟩) (Nat.lt_of_lt_of_le hzB bW.size)).trans ((bW.cell (p := ⟨w.heap.size, 3, none⟩) hzB).trans p3), (hx.cell (p := ⟨w.heap.size, 4, none⟩) (Nat.lt_of_lt_of_le hzB bW.size)).trans ((bW.cell (p := ⟨w.heap.size, 4, none⟩) hzB).trans p4), (hx.cell (p := ⟨w.heap.size, 5, none⟩) (Nat.lt_of_lt_of_le hzB bW.size)).trans ((bW.cell (p := ⟨w.heap.size, 5, none⟩) hzB).trans p5), (hx.cell (p := ⟨w.heap.size, 6, none⟩) (Nat.lt_of_lt_of_le hzB bW.size)).trans ((bW.cell (p := ⟨w.heap.size, 6, none⟩) hzB).trans p6), (hx.cell (p := ⟨w.heap.size, 7, none⟩) (Nat.lt_of_lt_of_le hzB bW.size)).trans ((bW.cell (p := ⟨w.heap.size, 7, none⟩) hzB).trans p7), (hx.cell (p := ⟨w.heap.size, 8, none⟩) (Nat.lt_of_lt_of_le hzB bW.size)).trans ((bW.cell (p := ⟨w.heap.size, 8, none⟩) hzB).trans p8), (hx.cell (p := ⟨w.heap.size, 9, none⟩) (Nat.lt_of_lt_of_le hzB bW.size)).trans ((bW.cell (p := ⟨w.heap.size, 9, none⟩) hzB).trans p9), (hx.cell (p := ⟨wr.heap.size, 0, none⟩) hWs).trans l0, (hx.cell (p := ⟨wr.heap.size, 1, none⟩) hWs).trans l1, (hx.cell (p := ⟨wr.heap.size, 2, none⟩) hWs).trans l2, (hx.cell (p := ⟨wr.heap.size, 3, none⟩) hWs).trans l3⟩)
            clear hk0 PV l0 l1 l2 l3 bW
            cases ha : ha0
            · have z1 : decide (za < 0) = true := by rw [hza, ha]; rfl
              have HE : Hid (R = false) := hideP (HBAD.out (by rw [HP.out, ha]; simp))
              clear hza hzb hzc ha
              go_wp2_with fail
              rw [← hW]
              clear hW
              refine wp_region_held_drew (S := fun x => x.cell? ⟨w.heap.size, 0, none⟩ = some (.string s) ∧ x.cell? ⟨w.heap.size, 1, none⟩ = some (.slice a1 n1 c1) ∧ x.cell? ⟨w.heap.size, 2, none⟩ = some (.slice (some ⟨b, off, none⟩) n2 c2) ∧ x.cell? ⟨w.heap.size, 3, none⟩ = some (.int .i64 g0) ∧ x.cell? ⟨w.heap.size, 4, none⟩ = some (.int .i64 g1) ∧ x.cell? ⟨w.heap.size, 5, none⟩ = some (.int .i64 0) ∧ x.cell? ⟨w.heap.size, 6, none⟩ = some (.int .i64 g3) ∧ x.cell? ⟨w.heap.size, 7, none⟩ = some (.int .i64 0) ∧ x.cell? ⟨w.heap.size, 8, none⟩ = some (.int .i64 q) ∧ x.cell? ⟨w.heap.size, 9, none⟩ = some (.int .i64 r) ∧ x.cell? ⟨wr.heap.size, 0, none⟩ = some (.int .i64 xa) ∧ x.cell? ⟨wr.heap.size, 1, none⟩ = some (.int .i64 xb) ∧ x.cell? ⟨wr.heap.size, 2, none⟩ = some (.int .i64 xc) ∧ x.cell? ⟨wr.heap.size, 3, none⟩ = some (.int .i64 xd)) (by kernel_rfl) (Q.out _ BD.out) (fun hS => ?_)
              refine wpAnyH_take (i := 0) (v := .int .i64 (k : Int)) rfl (by kernel_rfl) (by kernel_rfl) (by kernel_rfl) (fun _ _ _ h => h) (Or.inl ⟨by first | rfl | go_simp, fun wx hx => by obtain ⟨x0, x1, x2, x3, x4, x5, x6, x7, x8, x9, x10, x11, x12, x13⟩ := hx; go_simp⟩) hS ?_
              try simp only [Act.put, List.getElem_toArray, List.getElem_cons_zero, List.getElem_cons_succ, List.setIfInBounds_toArray, List.set_cons_zero, List.set_cons_succ]
              refine wpAnyH_take (i := 1) (v := .bool false) rfl (by kernel_rfl) (by kernel_rfl) (by kernel_rfl) (fun _ _ _ h => h) (Or.inl ⟨by first | rfl | go_simp, fun wx hx => by obtain ⟨x0, x1, x2, x3, x4, x5, x6, x7, x8, x9, x10, x11, x12, x13⟩ := hx; go_simp⟩) hS ?_
              try simp only [Act.put, List.getElem_toArray, List.getElem_cons_zero, List.getElem_cons_succ, List.setIfInBounds_toArray, List.set_cons_zero, List.set_cons_succ]
              refine wpAnyH_take (i := 2) (v := .bool false) rfl (by kernel_rfl) (by kernel_rfl) (by kernel_rfl) (fun _ _ _ h => h) (Or.inl ⟨by first | rfl | go_simp, fun wx hx => by obtain ⟨x0, x1, x2, x3, x4, x5, x6, x7, x8, x9, x10, x11, x12, x13⟩ := hx; go_simp⟩) hS ?_
              try simp only [Act.put, List.getElem_toArray, List.getElem_cons_zero, List.getElem_cons_succ, List.setIfInBounds_toArray, List.set_cons_zero, List.set_cons_succ]
              refine wpAnyH_take (i := 3) (v := undef) rfl (by kernel_rfl) (by kernel_rfl) (by kernel_rfl) (fun _ _ _ h => h) (Or.inr ⟨by first | (go_simp; done) | (go_simp; intro h; cases h; done) | (go_simp; simp [undef]; done), rfl⟩) hS ?_
              try simp only [Act.put, List.getElem_toArray, List.getElem_cons_zero, List.getElem_cons_succ, List.setIfInBounds_toArray, List.set_cons_zero, List.set_cons_succ]
              refine wpAnyH_take (i := 4) (v := undef) rfl (by kernel_rfl) (by kernel_rfl) (by kernel_rfl) (fun _ _ _ h => h) (Or.inr ⟨by first | (go_simp; done) | (go_simp; intro h; cases h; done) | (go_simp; simp [undef]; done), rfl⟩) hS ?_
              try simp only [Act.put, List.getElem_toArray, List.getElem_cons_zero, List.getElem_cons_succ, List.setIfInBounds_toArray, List.set_cons_zero, List.set_cons_succ]
              refine wpAnyH_take (i := 5) (v := undef) rfl (by kernel_rfl) (by kernel_rfl) (by kernel_rfl) (fun _ _ _ h => h) (Or.inr ⟨by first | (go_simp; done) | (go_simp; intro h; cases h; done) | (go_simp; simp [undef]; done), rfl⟩) hS ?_
              try simp only [Act.put, List.getElem_toArray, List.getElem_cons_zero, List.getElem_cons_succ, List.setIfInBounds_toArray, List.set_cons_zero, List.set_cons_succ]
              refine wpAnyH_take (i := 6) (v := undef) rfl (by kernel_rfl) (by kernel_rfl) (by kernel_rfl) (fun _ _ _ h => h) (Or.inr ⟨by first | (go_simp; done) | (go_simp; intro h; cases h; done) | (go_simp; simp [undef]; done), rfl⟩) hS ?_
              try simp only [Act.put, List.getElem_toArray, List.getElem_cons_zero, List.getElem_cons_succ, List.setIfInBounds_toArray, List.set_cons_zero, List.set_cons_succ]
              refine wpAnyH_take (i := 7) (v := undef) rfl (by kernel_rfl) (by kernel_rfl) (by kernel_rfl) (fun _ _ _ h => h) (Or.inr ⟨by first | (go_simp; done) | (go_simp; intro h; cases h; done) | (go_simp; simp [undef]; done), rfl⟩) hS ?_
              try simp only [Act.put, List.getElem_toArray, List.getElem_cons_zero, List.getElem_cons_succ, List.setIfInBounds_toArray, List.set_cons_zero, List.set_cons_succ]
              refine wpAnyH_take (i := 8) (v := undef) rfl (by kernel_rfl) (by kernel_rfl) (by kernel_rfl) (fun _ _ _ h => h) (Or.inr ⟨by first | (go_simp; done) | (go_simp; intro h; cases h; done) | (go_simp; simp [undef]; done), rfl⟩) hS ?_
              try simp only [Act.put, List.getElem_toArray, List.getElem_cons_zero, List.getElem_cons_succ, List.setIfInBounds_toArray, List.set_cons_zero, List.set_cons_succ]
              refine wpAnyH_take (i := 9) (v := undef) rfl (by kernel_rfl) (by kernel_rfl) (by kernel_rfl) (fun _ _ _ h => h) (Or.inr ⟨by first | (go_simp; done) | (go_simp; intro h; cases h; done) | (go_simp; simp [undef]; done), rfl⟩) hS ?_
              try simp only [Act.put, List.getElem_toArray, List.getElem_cons_zero, List.getElem_cons_succ, List.setIfInBounds_toArray, List.set_cons_zero, List.set_cons_succ]
              refine wpAnyH_take (i := 10) (v := undef) rfl (by kernel_rfl) (by kernel_rfl) (by kernel_rfl) (fun _ _ _ h => h) (Or.inr ⟨by first | (go_simp; done) | (go_simp; intro h; cases h; done) | (go_simp; simp [undef]; done), rfl⟩) hS ?_
              try simp only [Act.put, List.getElem_toArray, List.getElem_cons_zero, List.getElem_cons_succ, List.setIfInBounds_toArray, List.set_cons_zero, List.set_cons_succ]
              refine wpAnyH_take (i := 11) (v := undef) rfl (by kernel_rfl) (by kernel_rfl) (by kernel_rfl) (fun _ _ _ h => h) (Or.inr ⟨by first | (go_simp; done) | (go_simp; intro h; cases h; done) | (go_simp; simp [undef]; done), rfl⟩) hS ?_
              try simp only [Act.put, List.getElem_toArray, List.getElem_cons_zero, List.getElem_cons_succ, List.setIfInBounds_toArray, List.set_cons_zero, List.set_cons_succ]
              refine wpAnyH_take (i := 12) (v := .bool false) rfl (by kernel_rfl) (by kernel_rfl) (by kernel_rfl) (fun _ _ _ h => h) (Or.inl ⟨by first | rfl | go_simp, fun wx hx => by obtain ⟨x0, x1, x2, x3, x4, x5, x6, x7, x8, x9, x10, x11, x12, x13⟩ := hx; go_simp⟩) hS ?_
              try simp only [Act.put, List.getElem_toArray, List.getElem_cons_zero, List.getElem_cons_succ, List.setIfInBounds_toArray, List.set_cons_zero, List.set_cons_succ]
              refine wpAnyH_take (i := 13) (v := .bool false) rfl (by kernel_rfl) (by kernel_rfl) (by kernel_rfl) (fun _ _ _ h => h) (Or.inl ⟨by first | rfl | go_simp, fun wx hx => by obtain ⟨x0, x1, x2, x3, x4, x5, x6, x7, x8, x9, x10, x11, x12, x13⟩ := hx; go_simp⟩) hS ?_
              try simp only [Act.put, List.getElem_toArray, List.getElem_cons_zero, List.getElem_cons_succ, List.setIfInBounds_toArray, List.set_cons_zero, List.set_cons_succ]
              refine wpAnyH_take (i := 14) (v := .agg #[Value.string s, Value.slice a1 n1 c1, Value.slice (some ⟨b, off, none⟩) n2 c2, Value.int IntKind.i64 g0, Value.int IntKind.i64 g1, Value.int IntKind.i64 0, Value.int IntKind.i64 g3, Value.int IntKind.i64 0, Value.int IntKind.i64 q, Value.int IntKind.i64 r]) rfl (by kernel_rfl) (by kernel_rfl) (by kernel_rfl) (fun _ _ _ h => h) (Or.inl ⟨by first | rfl | go_simp, fun wx hx => by obtain ⟨x0, x1, x2, x3, x4, x5, x6, x7, x8, x9, x10, x11, x12, x13⟩ := hx; go_simp⟩) hS ?_
              try simp only [Act.put, List.getElem_toArray, List.getElem_cons_zero, List.getElem_cons_succ, List.setIfInBounds_toArray, List.set_cons_zero, List.set_cons_succ]
              refine wpAnyH_take (i := 15) (v := .pointer (some ⟨wr.heap.size, 0, none⟩)) rfl (by kernel_rfl) (by kernel_rfl) (by kernel_rfl) (fun _ _ _ h => h) (Or.inl ⟨by first | rfl | go_simp, fun wx hx => by obtain ⟨x0, x1, x2, x3, x4, x5, x6, x7, x8, x9, x10, x11, x12, x13⟩ := hx; go_simp⟩) hS ?_
              try simp only [Act.put, List.getElem_toArray, List.getElem_cons_zero, List.getElem_cons_succ, List.setIfInBounds_toArray, List.set_cons_zero, List.set_cons_succ]
              refine wpAnyH_take (i := 16) (v := .int .i64 xa) rfl (by kernel_rfl) (by kernel_rfl) (by kernel_rfl) (fun _ _ _ h => h) (Or.inl ⟨by first | rfl | go_simp, fun wx hx => by obtain ⟨x0, x1, x2, x3, x4, x5, x6, x7, x8, x9, x10, x11, x12, x13⟩ := hx; go_simp⟩) hS ?_
              try simp only [Act.put, List.getElem_toArray, List.getElem_cons_zero, List.getElem_cons_succ, List.setIfInBounds_toArray, List.set_cons_zero, List.set_cons_succ]
              refine wpAnyH_ready (rs := [17]) (by kernel_rfl) (by simp) ?_
              refine AllReadyH.cons rfl (fun K hK => ?_) AllReadyH.nil
              rw [if_pos (by first | rfl | go_simp)]
              go_wp2_with (go_at_call 32; refine (CA.out _ BD.out).mono ?_; rintro e v1 ⟨rfl, hb1⟩; have B1 : Hid (Below W.heap.size W v1) := hideP (below_more BD.out hb1 BD.out.size); clear hb1)
              refine hK.out _ _ (Q.out _ B1.out) (fun hS1 => ?_)
              try simp only [Act.put, List.getElem_toArray, List.getElem_cons_zero, List.getElem_cons_succ, List.setIfInBounds_toArray, List.set_cons_zero, List.set_cons_succ]
              refine wpAnyH_take (i := 18) (v := .bool true) rfl (by kernel_rfl) (by kernel_rfl) (by kernel_rfl) (fun _ _ _ h => h) (Or.inl ⟨by first | rfl | go_simp, fun wx hx => by obtain ⟨x0, x1, x2, x3, x4, x5, x6, x7, x8, x9, x10, x11, x12, x13⟩ := hx; go_simp⟩) hS1 ?_
              try simp only [Act.put, List.getElem_toArray, List.getElem_cons_zero, List.getElem_cons_succ, List.setIfInBounds_toArray, List.set_cons_zero, List.set_cons_succ]
              refine wpAnyH_take (i := 19) (v := .bool true) rfl (by kernel_rfl) (by kernel_rfl) (by kernel_rfl) (fun _ _ _ h => h) (Or.inl ⟨by first | rfl | go_simp, fun wx hx => by obtain ⟨x0, x1, x2, x3, x4, x5, x6, x7, x8, x9, x10, x11, x12, x13⟩ := hx; go_simp⟩) hS1 ?_
              try simp only [Act.put, List.getElem_toArray, List.getElem_cons_zero, List.getElem_cons_succ, List.setIfInBounds_toArray, List.set_cons_zero, List.set_cons_succ]
              refine wpAnyH_take (i := 20) (v := .bool true) rfl (by kernel_rfl) (by kernel_rfl) (by kernel_rfl) (fun _ _ _ h => h) (Or.inl ⟨by first | rfl | go_simp, fun wx hx => by obtain ⟨x0, x1, x2, x3, x4, x5, x6, x7, x8, x9, x10, x11, x12, x13⟩ := hx; go_simp⟩) hS1 ?_
              try simp only [Act.put, List.getElem_toArray, List.getElem_cons_zero, List.getElem_cons_succ, List.setIfInBounds_toArray, List.set_cons_zero, List.set_cons_succ]
              refine wpAnyH_take (i := 21) (v := undef) rfl (by kernel_rfl) (by kernel_rfl) (by kernel_rfl) (fun _ _ _ h => h) (Or.inr ⟨by first | (go_simp; done) | (go_simp; intro h; cases h; done) | (go_simp; simp [undef]; done), rfl⟩) hS1 ?_
              try simp only [Act.put, List.getElem_toArray, List.getElem_cons_zero, List.getElem_cons_succ, List.setIfInBounds_toArray, List.set_cons_zero, List.set_cons_succ]
              refine wpAnyH_take (i := 22) (v := undef) rfl (by kernel_rfl) (by kernel_rfl) (by kernel_rfl) (fun _ _ _ h => h) (Or.inr ⟨by first | (go_simp; done) | (go_simp; intro h; cases h; done) | (go_simp; simp [undef]; done), rfl⟩) hS1 ?_
              try simp only [Act.put, List.getElem_toArray, List.getElem_cons_zero, List.getElem_cons_succ, List.setIfInBounds_toArray, List.set_cons_zero, List.set_cons_succ]
              refine wpAnyH_take (i := 23) (v := undef) rfl (by kernel_rfl) (by kernel_rfl) (by kernel_rfl) (fun _ _ _ h => h) (Or.inr ⟨by first | (go_simp; done) | (go_simp; intro h; cases h; done) | (go_simp; simp [undef]; done), rfl⟩) hS1 ?_
              try simp only [Act.put, List.getElem_toArray, List.getElem_cons_zero, List.getElem_cons_succ, List.setIfInBounds_toArray, List.set_cons_zero, List.set_cons_succ]
              refine wpAnyH_take (i := 24) (v := undef) rfl (by kernel_rfl) (by kernel_rfl) (by kernel_rfl) (fun _ _ _ h => h) (Or.inr ⟨by first | (go_simp; done) | (go_simp; intro h; cases h; done) | (go_simp; simp [undef]; done), rfl⟩) hS1 ?_
              try simp only [Act.put, List.getElem_toArray, List.getElem_cons_zero, List.getElem_cons_succ, List.setIfInBounds_toArray, List.set_cons_zero, List.set_cons_succ]
              refine wpAnyH_take (i := 25) (v := undef) rfl (by kernel_rfl) (by kernel_rfl) (by kernel_rfl) (fun _ _ _ h => h) (Or.inr ⟨by first | (go_simp; done) | (go_simp; intro h; cases h; done) | (go_simp; simp [undef]; done), rfl⟩) hS1 ?_
              try simp only [Act.put, List.getElem_toArray, List.getElem_cons_zero, List.getElem_cons_succ, List.setIfInBounds_toArray, List.set_cons_zero, List.set_cons_succ]
              refine wpAnyH_take (i := 26) (v := .bool true) rfl (by kernel_rfl) (by kernel_rfl) (by kernel_rfl) (fun _ _ _ h => h) (Or.inl ⟨by first | rfl | go_simp, fun wx hx => by obtain ⟨x0, x1, x2, x3, x4, x5, x6, x7, x8, x9, x10, x11, x12, x13⟩ := hx; go_simp⟩) hS1 ?_
              try simp only [Act.put, List.getElem_toArray, List.getElem_cons_zero, List.getElem_cons_succ, List.setIfInBounds_toArray, List.set_cons_zero, List.set_cons_succ]
              refine wpAnyH_done (by kernel_rfl) ?_ _
              clear hS hS1 hK
              go_wp2
              go_ret
              exact ⟨retB HE.out.symm, (HBB.out _ B1.out).2⟩
            · have z1 : decide (za < 0) = false := by rw [hza, ha]; rfl
              cases hb' : hb0
              · have z2 : decide (zb < 0) = true := by rw [hzb, hb']; rfl
                have HE : Hid (R = false) := hideP (HBAD.out (by rw [HP.out, hb']; simp))
                clear hza hzb hzc ha hb'
                go_wp2_with fail
                rw [← hW]
                clear hW
                refine wp_region_held_drew (S := fun x => x.cell? ⟨w.heap.size, 0, none⟩ = some (.string s) ∧ x.cell? ⟨w.heap.size, 1, none⟩ = some (.slice a1 n1 c1) ∧ x.cell? ⟨w.heap.size, 2, none⟩ = some (.slice (some ⟨b, off, none⟩) n2 c2) ∧ x.cell? ⟨w.heap.size, 3, none⟩ = some (.int .i64 g0) ∧ x.cell? ⟨w.heap.size, 4, none⟩ = some (.int .i64 g1) ∧ x.cell? ⟨w.heap.size, 5, none⟩ = some (.int .i64 0) ∧ x.cell? ⟨w.heap.size, 6, none⟩ = some (.int .i64 g3) ∧ x.cell? ⟨w.heap.size, 7, none⟩ = some (.int .i64 0) ∧ x.cell? ⟨w.heap.size, 8, none⟩ = some (.int .i64 q) ∧ x.cell? ⟨w.heap.size, 9, none⟩ = some (.int .i64 r) ∧ x.cell? ⟨wr.heap.size, 0, none⟩ = some (.int .i64 xa) ∧ x.cell? ⟨wr.heap.size, 1, none⟩ = some (.int .i64 xb) ∧ x.cell? ⟨wr.heap.size, 2, none⟩ = some (.int .i64 xc) ∧ x.cell? ⟨wr.heap.size, 3, none⟩ = some (.int .i64 xd)) (by kernel_rfl) (Q.out _ BD.out) (fun hS => ?_)
                refine wpAnyH_take (i := 0) (v := .int .i64 (k : Int)) rfl (by kernel_rfl) (by kernel_rfl) (by kernel_rfl) (fun _ _ _ h => h) (Or.inl ⟨by first | rfl | go_simp, fun wx hx => by obtain ⟨x0, x1, x2, x3, x4, x5, x6, x7, x8, x9, x10, x11, x12, x13⟩ := hx; go_simp⟩) hS ?_
                try simp only [Act.put, List.getElem_toArray, List.getElem_cons_zero, List.getElem_cons_succ, List.setIfInBounds_toArray, List.set_cons_zero, List.set_cons_succ]
                refine wpAnyH_take (i := 1) (v := .bool false) rfl (by kernel_rfl) (by kernel_rfl) (by kernel_rfl) (fun _ _ _ h => h) (Or.inl ⟨by first | rfl | go_simp, fun wx hx => by obtain ⟨x0, x1, x2, x3, x4, x5, x6, x7, x8, x9, x10, x11, x12, x13⟩ := hx; go_simp⟩) hS ?_
                try simp only [Act.put, List.getElem_toArray, List.getElem_cons_zero, List.getElem_cons_succ, List.setIfInBounds_toArray, List.set_cons_zero, List.set_cons_succ]
                refine wpAnyH_take (i := 2) (v := .bool false) rfl (by kernel_rfl) (by kernel_rfl) (by kernel_rfl) (fun _ _ _ h => h) (Or.inl ⟨by first | rfl | go_simp, fun wx hx => by obtain ⟨x0, x1, x2, x3, x4, x5, x6, x7, x8, x9, x10, x11, x12, x13⟩ := hx; go_simp⟩) hS ?_
                try simp only [Act.put, List.getElem_toArray, List.getElem_cons_zero, List.getElem_cons_succ, List.setIfInBounds_toArray, List.set_cons_zero, List.set_cons_succ]
                refine wpAnyH_take (i := 3) (v := undef) rfl (by kernel_rfl) (by kernel_rfl) (by kernel_rfl) (fun _ _ _ h => h) (Or.inr ⟨by first | (go_simp; done) | (go_simp; intro h; cases h; done) | (go_simp; simp [undef]; done), rfl⟩) hS ?_
                try simp only [Act.put, List.getElem_toArray, List.getElem_cons_zero, List.getElem_cons_succ, List.setIfInBounds_toArray, List.set_cons_zero, List.set_cons_succ]
                refine wpAnyH_take (i := 4) (v := undef) rfl (by kernel_rfl) (by kernel_rfl) (by kernel_rfl) (fun _ _ _ h => h) (Or.inr ⟨by first | (go_simp; done) | (go_simp; intro h; cases h; done) | (go_simp; simp [undef]; done), rfl⟩) hS ?_
                try simp only [Act.put, List.getElem_toArray, List.getElem_cons_zero, List.getElem_cons_succ, List.setIfInBounds_toArray, List.set_cons_zero, List.set_cons_succ]
                refine wpAnyH_take (i := 5) (v := undef) rfl (by kernel_rfl) (by kernel_rfl) (by kernel_rfl) (fun _ _ _ h => h) (Or.inr ⟨by first | (go_simp; done) | (go_simp; intro h; cases h; done) | (go_simp; simp [undef]; done), rfl⟩) hS ?_
                try simp only [Act.put, List.getElem_toArray, List.getElem_cons_zero, List.getElem_cons_succ, List.setIfInBounds_toArray, List.set_cons_zero, List.set_cons_succ]
                refine wpAnyH_take (i := 6) (v := undef) rfl (by kernel_rfl) (by kernel_rfl) (by kernel_rfl) (fun _ _ _ h => h) (Or.inr ⟨by first | (go_simp; done) | (go_simp; intro h; cases h; done) | (go_simp; simp [undef]; done), rfl⟩) hS ?_
                try simp only [Act.put, List.getElem_toArray, List.getElem_cons_zero, List.getElem_cons_succ, List.setIfInBounds_toArray, List.set_cons_zero, List.set_cons_succ]
                refine wpAnyH_take (i := 7) (v := undef) rfl (by kernel_rfl) (by kernel_rfl) (by kernel_rfl) (fun _ _ _ h => h) (Or.inr ⟨by first | (go_simp; done) | (go_simp; intro h; cases h; done) | (go_simp; simp [undef]; done), rfl⟩) hS ?_
                try simp only [Act.put, List.getElem_toArray, List.getElem_cons_zero, List.getElem_cons_succ, List.setIfInBounds_toArray, List.set_cons_zero, List.set_cons_succ]
                refine wpAnyH_take (i := 8) (v := undef) rfl (by kernel_rfl) (by kernel_rfl) (by kernel_rfl) (fun _ _ _ h => h) (Or.inr ⟨by first | (go_simp; done) | (go_simp; intro h; cases h; done) | (go_simp; simp [undef]; done), rfl⟩) hS ?_
                try simp only [Act.put, List.getElem_toArray, List.getElem_cons_zero, List.getElem_cons_succ, List.setIfInBounds_toArray, List.set_cons_zero, List.set_cons_succ]
                refine wpAnyH_take (i := 9) (v := undef) rfl (by kernel_rfl) (by kernel_rfl) (by kernel_rfl) (fun _ _ _ h => h) (Or.inr ⟨by first | (go_simp; done) | (go_simp; intro h; cases h; done) | (go_simp; simp [undef]; done), rfl⟩) hS ?_
                try simp only [Act.put, List.getElem_toArray, List.getElem_cons_zero, List.getElem_cons_succ, List.setIfInBounds_toArray, List.set_cons_zero, List.set_cons_succ]
                refine wpAnyH_take (i := 10) (v := undef) rfl (by kernel_rfl) (by kernel_rfl) (by kernel_rfl) (fun _ _ _ h => h) (Or.inr ⟨by first | (go_simp; done) | (go_simp; intro h; cases h; done) | (go_simp; simp [undef]; done), rfl⟩) hS ?_
                try simp only [Act.put, List.getElem_toArray, List.getElem_cons_zero, List.getElem_cons_succ, List.setIfInBounds_toArray, List.set_cons_zero, List.set_cons_succ]
                refine wpAnyH_take (i := 11) (v := undef) rfl (by kernel_rfl) (by kernel_rfl) (by kernel_rfl) (fun _ _ _ h => h) (Or.inr ⟨by first | (go_simp; done) | (go_simp; intro h; cases h; done) | (go_simp; simp [undef]; done), rfl⟩) hS ?_
                try simp only [Act.put, List.getElem_toArray, List.getElem_cons_zero, List.getElem_cons_succ, List.setIfInBounds_toArray, List.set_cons_zero, List.set_cons_succ]
                refine wpAnyH_take (i := 12) (v := .bool false) rfl (by kernel_rfl) (by kernel_rfl) (by kernel_rfl) (fun _ _ _ h => h) (Or.inl ⟨by first | rfl | go_simp, fun wx hx => by obtain ⟨x0, x1, x2, x3, x4, x5, x6, x7, x8, x9, x10, x11, x12, x13⟩ := hx; go_simp⟩) hS ?_
                try simp only [Act.put, List.getElem_toArray, List.getElem_cons_zero, List.getElem_cons_succ, List.setIfInBounds_toArray, List.set_cons_zero, List.set_cons_succ]
                refine wpAnyH_take (i := 13) (v := .bool false) rfl (by kernel_rfl) (by kernel_rfl) (by kernel_rfl) (fun _ _ _ h => h) (Or.inl ⟨by first | rfl | go_simp, fun wx hx => by obtain ⟨x0, x1, x2, x3, x4, x5, x6, x7, x8, x9, x10, x11, x12, x13⟩ := hx; go_simp⟩) hS ?_
                try simp only [Act.put, List.getElem_toArray, List.getElem_cons_zero, List.getElem_cons_succ, List.setIfInBounds_toArray, List.set_cons_zero, List.set_cons_succ]
                refine wpAnyH_take (i := 14) (v := .agg #[Value.string s, Value.slice a1 n1 c1, Value.slice (some ⟨b, off, none⟩) n2 c2, Value.int IntKind.i64 g0, Value.int IntKind.i64 g1, Value.int IntKind.i64 0, Value.int IntKind.i64 g3, Value.int IntKind.i64 0, Value.int IntKind.i64 q, Value.int IntKind.i64 r]) rfl (by kernel_rfl) (by kernel_rfl) (by kernel_rfl) (fun _ _ _ h => h) (Or.inl ⟨by first | rfl | go_simp, fun wx hx => by obtain ⟨x0, x1, x2, x3, x4, x5, x6, x7, x8, x9, x10, x11, x12, x13⟩ := hx; go_simp⟩) hS ?_
                try simp only [Act.put, List.getElem_toArray, List.getElem_cons_zero, List.getElem_cons_succ, List.setIfInBounds_toArray, List.set_cons_zero, List.set_cons_succ]
                refine wpAnyH_take (i := 15) (v := .pointer (some ⟨wr.heap.size, 0, none⟩)) rfl (by kernel_rfl) (by kernel_rfl) (by kernel_rfl) (fun _ _ _ h => h) (Or.inl ⟨by first | rfl | go_simp, fun wx hx => by obtain ⟨x0, x1, x2, x3, x4, x5, x6, x7, x8, x9, x10, x11, x12, x13⟩ := hx; go_simp⟩) hS ?_
                try simp only [Act.put, List.getElem_toArray, List.getElem_cons_zero, List.getElem_cons_succ, List.setIfInBounds_toArray, List.set_cons_zero, List.set_cons_succ]
                refine wpAnyH_take (i := 16) (v := .int .i64 xa) rfl (by kernel_rfl) (by kernel_rfl) (by kernel_rfl) (fun _ _ _ h => h) (Or.inl ⟨by first | rfl | go_simp, fun wx hx => by obtain ⟨x0, x1, x2, x3, x4, x5, x6, x7, x8, x9, x10, x11, x12, x13⟩ := hx; go_simp⟩) hS ?_
                try simp only [Act.put, List.getElem_toArray, List.getElem_cons_zero, List.getElem_cons_succ, List.setIfInBounds_toArray, List.set_cons_zero, List.set_cons_succ]
                refine wpAnyH_ready (rs := [17]) (by kernel_rfl) (by simp) ?_
                refine AllReadyH.cons rfl (fun K hK => ?_) AllReadyH.nil
                rw [if_pos (by first | rfl | go_simp)]
                go_wp2_with (go_at_call 32; refine (CA.out _ BD.out).mono ?_; rintro e v1 ⟨rfl, hb1⟩; have B1 : Hid (Below W.heap.size W v1) := hideP (below_more BD.out hb1 BD.out.size); clear hb1)
                refine hK.out _ _ (Q.out _ B1.out) (fun hS1 => ?_)
                try simp only [Act.put, List.getElem_toArray, List.getElem_cons_zero, List.getElem_cons_succ, List.setIfInBounds_toArray, List.set_cons_zero, List.set_cons_succ]
                refine wpAnyH_take (i := 18) (v := .bool false) rfl (by kernel_rfl) (by kernel_rfl) (by kernel_rfl) (fun _ _ _ h => h) (Or.inl ⟨by first | rfl | go_simp, fun wx hx => by obtain ⟨x0, x1, x2, x3, x4, x5, x6, x7, x8, x9, x10, x11, x12, x13⟩ := hx; go_simp⟩) hS1 ?_
                try simp only [Act.put, List.getElem_toArray, List.getElem_cons_zero, List.getElem_cons_succ, List.setIfInBounds_toArray, List.set_cons_zero, List.set_cons_succ]
                refine wpAnyH_take (i := 19) (v := .bool false) rfl (by kernel_rfl) (by kernel_rfl) (by kernel_rfl) (fun _ _ _ h => h) (Or.inl ⟨by first | rfl | go_simp, fun wx hx => by obtain ⟨x0, x1, x2, x3, x4, x5, x6, x7, x8, x9, x10, x11, x12, x13⟩ := hx; go_simp⟩) hS1 ?_
                try simp only [Act.put, List.getElem_toArray, List.getElem_cons_zero, List.getElem_cons_succ, List.setIfInBounds_toArray, List.set_cons_zero, List.set_cons_succ]
                refine wpAnyH_take (i := 20) (v := .bool false) rfl (by kernel_rfl) (by kernel_rfl) (by kernel_rfl) (fun _ _ _ h => h) (Or.inl ⟨by first | rfl | go_simp, fun wx hx => by obtain ⟨x0, x1, x2, x3, x4, x5, x6, x7, x8, x9, x10, x11, x12, x13⟩ := hx; go_simp⟩) hS1 ?_
                try simp only [Act.put, List.getElem_toArray, List.getElem_cons_zero, List.getElem_cons_succ, List.setIfInBounds_toArray, List.set_cons_zero, List.set_cons_succ]
                refine wpAnyH_take (i := 21) (v := .agg #[Value.string s, Value.slice a1 n1 c1, Value.slice (some ⟨b, off, none⟩) n2 c2, Value.int IntKind.i64 g0, Value.int IntKind.i64 g1, Value.int IntKind.i64 0, Value.int IntKind.i64 g3, Value.int IntKind.i64 0, Value.int IntKind.i64 q, Value.int IntKind.i64 r]) rfl (by kernel_rfl) (by kernel_rfl) (by kernel_rfl) (fun _ _ _ h => h) (Or.inl ⟨by first | rfl | go_simp, fun wx hx => by obtain ⟨x0, x1, x2, x3, x4, x5, x6, x7, x8, x9, x10, x11, x12, x13⟩ := hx; go_simp⟩) hS1 ?_
                try simp only [Act.put, List.getElem_toArray, List.getElem_cons_zero, List.getElem_cons_succ, List.setIfInBounds_toArray, List.set_cons_zero, List.set_cons_succ]
                refine wpAnyH_take (i := 22) (v := .pointer (some ⟨wr.heap.size, 1, none⟩)) rfl (by kernel_rfl) (by kernel_rfl) (by kernel_rfl) (fun _ _ _ h => h) (Or.inl ⟨by first | rfl | go_simp, fun wx hx => by obtain ⟨x0, x1, x2, x3, x4, x5, x6, x7, x8, x9, x10, x11, x12, x13⟩ := hx; go_simp⟩) hS1 ?_
                try simp only [Act.put, List.getElem_toArray, List.getElem_cons_zero, List.getElem_cons_succ, List.setIfInBounds_toArray, List.set_cons_zero, List.set_cons_succ]
                refine wpAnyH_take (i := 23) (v := .int .i64 xb) rfl (by kernel_rfl) (by kernel_rfl) (by kernel_rfl) (fun _ _ _ h => h) (Or.inl ⟨by first | rfl | go_simp, fun wx hx => by obtain ⟨x0, x1, x2, x3, x4, x5, x6, x7, x8, x9, x10, x11, x12, x13⟩ := hx; go_simp⟩) hS1 ?_
                try simp only [Act.put, List.getElem_toArray, List.getElem_cons_zero, List.getElem_cons_succ, List.setIfInBounds_toArray, List.set_cons_zero, List.set_cons_succ]
                refine wpAnyH_ready (rs := [24]) (by kernel_rfl) (by simp) ?_
                refine AllReadyH.cons rfl (fun K hK => ?_) AllReadyH.nil
                rw [if_pos (by first | rfl | go_simp)]
                go_wp2_with (go_at_call 32; refine (CB.out _ B1.out).mono ?_; rintro e v2 ⟨rfl, hb2⟩; have B2 : Hid (Below W.heap.size W v2) := hideP (below_more B1.out hb2 B1.out.size); clear hb2)
                refine hK.out _ _ (Q.out _ B2.out) (fun hS2 => ?_)
                try simp only [Act.put, List.getElem_toArray, List.getElem_cons_zero, List.getElem_cons_succ, List.setIfInBounds_toArray, List.set_cons_zero, List.set_cons_succ]
                refine wpAnyH_take (i := 25) (v := .bool true) rfl (by kernel_rfl) (by kernel_rfl) (by kernel_rfl) (fun _ _ _ h => h) (Or.inl ⟨by first | rfl | go_simp, fun wx hx => by obtain ⟨x0, x1, x2, x3, x4, x5, x6, x7, x8, x9, x10, x11, x12, x13⟩ := hx; go_simp⟩) hS2 ?_
                try simp only [Act.put, List.getElem_toArray, List.getElem_cons_zero, List.getElem_cons_succ, List.setIfInBounds_toArray, List.set_cons_zero, List.set_cons_succ]
                refine wpAnyH_take (i := 26) (v := .bool true) rfl (by kernel_rfl) (by kernel_rfl) (by kernel_rfl) (fun _ _ _ h => h) (Or.inl ⟨by first | rfl | go_simp, fun wx hx => by obtain ⟨x0, x1, x2, x3, x4, x5, x6, x7, x8, x9, x10, x11, x12, x13⟩ := hx; go_simp⟩) hS2 ?_
                try simp only [Act.put, List.getElem_toArray, List.getElem_cons_zero, List.getElem_cons_succ, List.setIfInBounds_toArray, List.set_cons_zero, List.set_cons_succ]
                refine wpAnyH_done (by kernel_rfl) ?_ _
                clear hS hS1 hS2 hK
                go_wp2
                go_ret
                exact ⟨retB HE.out.symm, (HBB.out _ B2.out).2⟩
              · have z2 : decide (zb < 0) = false := by rw [hzb, hb']; rfl
                subst ha hb'
                clear hza hzb
                go_wp2_with fail
                rw [← hW]
                clear hW
                refine wp_region_held_drew (S := fun x => x.cell? ⟨w.heap.size, 0, none⟩ = some (.string s) ∧ x.cell? ⟨w.heap.size, 1, none⟩ = some (.slice a1 n1 c1) ∧ x.cell? ⟨w.heap.size, 2, none⟩ = some (.slice (some ⟨b, off, none⟩) n2 c2) ∧ x.cell? ⟨w.heap.size, 3, none⟩ = some (.int .i64 g0) ∧ x.cell? ⟨w.heap.size, 4, none⟩ = some (.int .i64 g1) ∧ x.cell? ⟨w.heap.size, 5, none⟩ = some (.int .i64 0) ∧ x.cell? ⟨w.heap.size, 6, none⟩ = some (.int .i64 g3) ∧ x.cell? ⟨w.heap.size, 7, none⟩ = some (.int .i64 0) ∧ x.cell? ⟨w.heap.size, 8, none⟩ = some (.int .i64 q) ∧ x.cell? ⟨w.heap.size, 9, none⟩ = some (.int .i64 r) ∧ x.cell? ⟨wr.heap.size, 0, none⟩ = some (.int .i64 xa) ∧ x.cell? ⟨wr.heap.size, 1, none⟩ = some (.int .i64 xb) ∧ x.cell? ⟨wr.heap.size, 2, none⟩ = some (.int .i64 xc) ∧ x.cell? ⟨wr.heap.size, 3, none⟩ = some (.int .i64 xd)) (by kernel_rfl) (Q.out _ BD.out) (fun hS => ?_)
                refine wpAnyH_take (i := 0) (v := .int .i64 (k : Int)) rfl (by kernel_rfl) (by kernel_rfl) (by kernel_rfl) (fun _ _ _ h => h) (Or.inl ⟨by first | rfl | go_simp, fun wx hx => by obtain ⟨x0, x1, x2, x3, x4, x5, x6, x7, x8, x9, x10, x11, x12, x13⟩ := hx; go_simp⟩) hS ?_
                try simp only [Act.put, List.getElem_toArray, List.getElem_cons_zero, List.getElem_cons_succ, List.setIfInBounds_toArray, List.set_cons_zero, List.set_cons_succ]
                refine wpAnyH_take (i := 1) (v := .bool false) rfl (by kernel_rfl) (by kernel_rfl) (by kernel_rfl) (fun _ _ _ h => h) (Or.inl ⟨by first | rfl | go_simp, fun wx hx => by obtain ⟨x0, x1, x2, x3, x4, x5, x6, x7, x8, x9, x10, x11, x12, x13⟩ := hx; go_simp⟩) hS ?_
                try simp only [Act.put, List.getElem_toArray, List.getElem_cons_zero, List.getElem_cons_succ, List.setIfInBounds_toArray, List.set_cons_zero, List.set_cons_succ]
                refine wpAnyH_take (i := 2) (v := .bool false) rfl (by kernel_rfl) (by kernel_rfl) (by kernel_rfl) (fun _ _ _ h => h) (Or.inl ⟨by first | rfl | go_simp, fun wx hx => by obtain ⟨x0, x1, x2, x3, x4, x5, x6, x7, x8, x9, x10, x11, x12, x13⟩ := hx; go_simp⟩) hS ?_
                try simp only [Act.put, List.getElem_toArray, List.getElem_cons_zero, List.getElem_cons_succ, List.setIfInBounds_toArray, List.set_cons_zero, List.set_cons_succ]
                refine wpAnyH_take (i := 3) (v := undef) rfl (by kernel_rfl) (by kernel_rfl) (by kernel_rfl) (fun _ _ _ h => h) (Or.inr ⟨by first | (go_simp; done) | (go_simp; intro h; cases h; done) | (go_simp; simp [undef]; done), rfl⟩) hS ?_
                try simp only [Act.put, List.getElem_toArray, List.getElem_cons_zero, List.getElem_cons_succ, List.setIfInBounds_toArray, List.set_cons_zero, List.set_cons_succ]
                refine wpAnyH_take (i := 4) (v := undef) rfl (by kernel_rfl) (by kernel_rfl) (by kernel_rfl) (fun _ _ _ h => h) (Or.inr ⟨by first | (go_simp; done) | (go_simp; intro h; cases h; done) | (go_simp; simp [undef]; done), rfl⟩) hS ?_
                try simp only [Act.put, List.getElem_toArray, List.getElem_cons_zero, List.getElem_cons_succ, List.setIfInBounds_toArray, List.set_cons_zero, List.set_cons_succ]
                refine wpAnyH_take (i := 5) (v := undef) rfl (by kernel_rfl) (by kernel_rfl) (by kernel_rfl) (fun _ _ _ h => h) (Or.inr ⟨by first | (go_simp; done) | (go_simp; intro h; cases h; done) | (go_simp; simp [undef]; done), rfl⟩) hS ?_
                try simp only [Act.put, List.getElem_toArray, List.getElem_cons_zero, List.getElem_cons_succ, List.setIfInBounds_toArray, List.set_cons_zero, List.set_cons_succ]
                refine wpAnyH_take (i := 6) (v := undef) rfl (by kernel_rfl) (by kernel_rfl) (by kernel_rfl) (fun _ _ _ h => h) (Or.inr ⟨by first | (go_simp; done) | (go_simp; intro h; cases h; done) | (go_simp; simp [undef]; done), rfl⟩) hS ?_
                try simp only [Act.put, List.getElem_toArray, List.getElem_cons_zero, List.getElem_cons_succ, List.setIfInBounds_toArray, List.set_cons_zero, List.set_cons_succ]
                refine wpAnyH_take (i := 7) (v := undef) rfl (by kernel_rfl) (by kernel_rfl) (by kernel_rfl) (fun _ _ _ h => h) (Or.inr ⟨by first | (go_simp; done) | (go_simp; intro h; cases h; done) | (go_simp; simp [undef]; done), rfl⟩) hS ?_
                try simp only [Act.put, List.getElem_toArray, List.getElem_cons_zero, List.getElem_cons_succ, List.setIfInBounds_toArray, List.set_cons_zero, List.set_cons_succ]
                refine wpAnyH_take (i := 8) (v := undef) rfl (by kernel_rfl) (by kernel_rfl) (by kernel_rfl) (fun _ _ _ h => h) (Or.inr ⟨by first | (go_simp; done) | (go_simp; intro h; cases h; done) | (go_simp; simp [undef]; done), rfl⟩) hS ?_
                try simp only [Act.put, List.getElem_toArray, List.getElem_cons_zero, List.getElem_cons_succ, List.setIfInBounds_toArray, List.set_cons_zero, List.set_cons_succ]
                refine wpAnyH_take (i := 9) (v := undef) rfl (by kernel_rfl) (by kernel_rfl) (by kernel_rfl) (fun _ _ _ h => h) (Or.inr ⟨by first | (go_simp; done) | (go_simp; intro h; cases h; done) | (go_simp; simp [undef]; done), rfl⟩) hS ?_
                try simp only [Act.put, List.getElem_toArray, List.getElem_cons_zero, List.getElem_cons_succ, List.setIfInBounds_toArray, List.set_cons_zero, List.set_cons_succ]
                refine wpAnyH_take (i := 10) (v := undef) rfl (by kernel_rfl) (by kernel_rfl) (by kernel_rfl) (fun _ _ _ h => h) (Or.inr ⟨by first | (go_simp; done) | (go_simp; intro h; cases h; done) | (go_simp; simp [undef]; done), rfl⟩) hS ?_
                try simp only [Act.put, List.getElem_toArray, List.getElem_cons_zero, List.getElem_cons_succ, List.setIfInBounds_toArray, List.set_cons_zero, List.set_cons_succ]
                refine wpAnyH_take (i := 11) (v := undef) rfl (by kernel_rfl) (by kernel_rfl) (by kernel_rfl) (fun _ _ _ h => h) (Or.inr ⟨by first | (go_simp; done) | (go_simp; intro h; cases h; done) | (go_simp; simp [undef]; done), rfl⟩) hS ?_
                try simp only [Act.put, List.getElem_toArray, List.getElem_cons_zero, List.getElem_cons_succ, List.setIfInBounds_toArray, List.set_cons_zero, List.set_cons_succ]
                refine wpAnyH_take (i := 12) (v := .bool false) rfl (by kernel_rfl) (by kernel_rfl) (by kernel_rfl) (fun _ _ _ h => h) (Or.inl ⟨by first | rfl | go_simp, fun wx hx => by obtain ⟨x0, x1, x2, x3, x4, x5, x6, x7, x8, x9, x10, x11, x12, x13⟩ := hx; go_simp⟩) hS ?_
                try simp only [Act.put, List.getElem_toArray, List.getElem_cons_zero, List.getElem_cons_succ, List.setIfInBounds_toArray, List.set_cons_zero, List.set_cons_succ]
                refine wpAnyH_take (i := 13) (v := .bool false) rfl (by kernel_rfl) (by kernel_rfl) (by kernel_rfl) (fun _ _ _ h => h) (Or.inl ⟨by first | rfl | go_simp, fun wx hx => by obtain ⟨x0, x1, x2, x3, x4, x5, x6, x7, x8, x9, x10, x11, x12, x13⟩ := hx; go_simp⟩) hS ?_
                try simp only [Act.put, List.getElem_toArray, List.getElem_cons_zero, List.getElem_cons_succ, List.setIfInBounds_toArray, List.set_cons_zero, List.set_cons_succ]
                refine wpAnyH_take (i := 14) (v := .agg #[Value.string s, Value.slice a1 n1 c1, Value.slice (some ⟨b, off, none⟩) n2 c2, Value.int IntKind.i64 g0, Value.int IntKind.i64 g1, Value.int IntKind.i64 0, Value.int IntKind.i64 g3, Value.int IntKind.i64 0, Value.int IntKind.i64 q, Value.int IntKind.i64 r]) rfl (by kernel_rfl) (by kernel_rfl) (by kernel_rfl) (fun _ _ _ h => h) (Or.inl ⟨by first | rfl | go_simp, fun wx hx => by obtain ⟨x0, x1, x2, x3, x4, x5, x6, x7, x8, x9, x10, x11, x12, x13⟩ := hx; go_simp⟩) hS ?_
                try simp only [Act.put, List.getElem_toArray, List.getElem_cons_zero, List.getElem_cons_succ, List.setIfInBounds_toArray, List.set_cons_zero, List.set_cons_succ]
                refine wpAnyH_take (i := 15) (v := .pointer (some ⟨wr.heap.size, 0, none⟩)) rfl (by kernel_rfl) (by kernel_rfl) (by kernel_rfl) (fun _ _ _ h => h) (Or.inl ⟨by first | rfl | go_simp, fun wx hx => by obtain ⟨x0, x1, x2, x3, x4, x5, x6, x7, x8, x9, x10, x11, x12, x13⟩ := hx; go_simp⟩) hS ?_
                try simp only [Act.put, List.getElem_toArray, List.getElem_cons_zero, List.getElem_cons_succ, List.setIfInBounds_toArray, List.set_cons_zero, List.set_cons_succ]
                refine wpAnyH_take (i := 16) (v := .int .i64 xa) rfl (by kernel_rfl) (by kernel_rfl) (by kernel_rfl) (fun _ _ _ h => h) (Or.inl ⟨by first | rfl | go_simp, fun wx hx => by obtain ⟨x0, x1, x2, x3, x4, x5, x6, x7, x8, x9, x10, x11, x12, x13⟩ := hx; go_simp⟩) hS ?_
                try simp only [Act.put, List.getElem_toArray, List.getElem_cons_zero, List.getElem_cons_succ, List.setIfInBounds_toArray, List.set_cons_zero, List.set_cons_succ]
                refine wpAnyH_ready (rs := [17]) (by kernel_rfl) (by simp) ?_
                refine AllReadyH.cons rfl (fun K hK => ?_) AllReadyH.nil
                rw [if_pos (by first | rfl | go_simp)]
                go_wp2_with (go_at_call 32; refine (CA.out _ BD.out).mono ?_; rintro e v1 ⟨rfl, hb1⟩; have B1 : Hid (Below W.heap.size W v1) := hideP (below_more BD.out hb1 BD.out.size); clear hb1)
                refine hK.out _ _ (Q.out _ B1.out) (fun hS1 => ?_)
                try simp only [Act.put, List.getElem_toArray, List.getElem_cons_zero, List.getElem_cons_succ, List.setIfInBounds_toArray, List.set_cons_zero, List.set_cons_succ]
                refine wpAnyH_take (i := 18) (v := .bool false) rfl (by kernel_rfl) (by kernel_rfl) (by kernel_rfl) (fun _ _ _ h => h) (Or.inl ⟨by first | rfl | go_simp, fun wx hx => by obtain ⟨x0, x1, x2, x3, x4, x5, x6, x7, x8, x9, x10, x11, x12, x13⟩ := hx; go_simp⟩) hS1 ?_
                try simp only [Act.put, List.getElem_toArray, List.getElem_cons_zero, List.getElem_cons_succ, List.setIfInBounds_toArray, List.set_cons_zero, List.set_cons_succ]
                refine wpAnyH_take (i := 19) (v := .bool false) rfl (by kernel_rfl) (by kernel_rfl) (by kernel_rfl) (fun _ _ _ h => h) (Or.inl ⟨by first | rfl | go_simp, fun wx hx => by obtain ⟨x0, x1, x2, x3, x4, x5, x6, x7, x8, x9, x10, x11, x12, x13⟩ := hx; go_simp⟩) hS1 ?_
                try simp only [Act.put, List.getElem_toArray, List.getElem_cons_zero, List.getElem_cons_succ, List.setIfInBounds_toArray, List.set_cons_zero, List.set_cons_succ]
                refine wpAnyH_take (i := 20) (v := .bool false) rfl (by kernel_rfl) (by kernel_rfl) (by kernel_rfl) (fun _ _ _ h => h) (Or.inl ⟨by first | rfl | go_simp, fun wx hx => by obtain ⟨x0, x1, x2, x3, x4, x5, x6, x7, x8, x9, x10, x11, x12, x13⟩ := hx; go_simp⟩) hS1 ?_
                try simp only [Act.put, List.getElem_toArray, List.getElem_cons_zero, List.getElem_cons_succ, List.setIfInBounds_toArray, List.set_cons_zero, List.set_cons_succ]
                refine wpAnyH_take (i := 21) (v := .agg #[Value.string s, Value.slice a1 n1 c1, Value.slice (some ⟨b, off, none⟩) n2 c2, Value.int IntKind.i64 g0, Value.int IntKind.i64 g1, Value.int IntKind.i64 0, Value.int IntKind.i64 g3, Value.int IntKind.i64 0, Value.int IntKind.i64 q, Value.int IntKind.i64 r]) rfl (by kernel_rfl) (by kernel_rfl) (by kernel_rfl) (fun _ _ _ h => h) (Or.inl ⟨by first | rfl | go_simp, fun wx hx => by obtain ⟨x0, x1, x2, x3, x4, x5, x6, x7, x8, x9, x10, x11, x12, x13⟩ := hx; go_simp⟩) hS1 ?_
                try simp only [Act.put, List.getElem_toArray, List.getElem_cons_zero, List.getElem_cons_succ, List.setIfInBounds_toArray, List.set_cons_zero, List.set_cons_succ]
                refine wpAnyH_take (i := 22) (v := .pointer (some ⟨wr.heap.size, 1, none⟩)) rfl (by kernel_rfl) (by kernel_rfl) (by kernel_rfl) (fun _ _ _ h => h) (Or.inl ⟨by first | rfl | go_simp, fun wx hx => by obtain ⟨x0, x1, x2, x3, x4, x5, x6, x7, x8, x9, x10, x11, x12, x13⟩ := hx; go_simp⟩) hS1 ?_
                try simp only [Act.put, List.getElem_toArray, List.getElem_cons_zero, List.getElem_cons_succ, List.setIfInBounds_toArray, List.set_cons_zero, List.set_cons_succ]
                refine wpAnyH_take (i := 23) (v := .int .i64 xb) rfl (by kernel_rfl) (by kernel_rfl) (by kernel_rfl) (fun _ _ _ h => h) (Or.inl ⟨by first | rfl | go_simp, fun wx hx => by obtain ⟨x0, x1, x2, x3, x4, x5, x6, x7, x8, x9, x10, x11, x12, x13⟩ := hx; go_simp⟩) hS1 ?_
                try simp only [Act.put, List.getElem_toArray, List.getElem_cons_zero, List.getElem_cons_succ, List.setIfInBounds_toArray, List.set_cons_zero, List.set_cons_succ]
                refine wpAnyH_ready (rs := [24]) (by kernel_rfl) (by simp) ?_
                refine AllReadyH.cons rfl (fun K hK => ?_) AllReadyH.nil
                rw [if_pos (by first | rfl | go_simp)]
                go_wp2_with (go_at_call 32; refine (CB.out _ B1.out).mono ?_; rintro e v2 ⟨rfl, hb2⟩; have B2 : Hid (Below W.heap.size W v2) := hideP (below_more B1.out hb2 B1.out.size); clear hb2)
                refine hK.out _ _ (Q.out _ B2.out) (fun hS2 => ?_)
                try simp only [Act.put, List.getElem_toArray, List.getElem_cons_zero, List.getElem_cons_succ, List.setIfInBounds_toArray, List.set_cons_zero, List.set_cons_succ]
                refine wpAnyH_take (i := 25) (v := .bool false) rfl (by kernel_rfl) (by kernel_rfl) (by kernel_rfl) (fun _ _ _ h => h) (Or.inl ⟨by first | rfl | go_simp, fun wx hx => by obtain ⟨x0, x1, x2, x3, x4, x5, x6, x7, x8, x9, x10, x11, x12, x13⟩ := hx; go_simp⟩) hS2 ?_
                try simp only [Act.put, List.getElem_toArray, List.getElem_cons_zero, List.getElem_cons_succ, List.setIfInBounds_toArray, List.set_cons_zero, List.set_cons_succ]
                refine wpAnyH_take (i := 26) (v := .bool false) rfl (by kernel_rfl) (by kernel_rfl) (by kernel_rfl) (fun _ _ _ h => h) (Or.inl ⟨by first | rfl | go_simp, fun wx hx => by obtain ⟨x0, x1, x2, x3, x4, x5, x6, x7, x8, x9, x10, x11, x12, x13⟩ := hx; go_simp⟩) hS2 ?_
                try simp only [Act.put, List.getElem_toArray, List.getElem_cons_zero, List.getElem_cons_succ, List.setIfInBounds_toArray, List.set_cons_zero, List.set_cons_succ]
                refine wpAnyH_done (by kernel_rfl) ?_ _
                clear hS hS1 hS2 hK
                have HC := hideP (HBB.out _ B2.out)
                have hzz : wr.heap.size < v2.heap.size := Nat.lt_of_lt_of_le hWs B2.out.size
                obtain ⟨x0, x1, x2, x3, x4, x5, x6, x7, x8, x9, x10, x11, x12, x13⟩ := Q.out _ B2.out
                by_cases hl : xc = -1
                · subst hl
                  by_cases h7 : -6553600 ≤ xd
                  rotate_left
                  · have h7' : decide (xd < -6553600) = true := by simp; omega
                    have HE : Hid (R = false) := hideP (HBAD.out (by rw [HP.out]; simp; omega))
                    clear h7
                    go_wp2
                    go_ret
                    exact ⟨retB HE.out.symm, HC.out.2⟩
                  have h7' : decide (xd < -6553600) = false := by simp; omega
                  by_cases h8 : xd ≤ 6553600
                  rotate_left
                  · have h8' : decide (6553600 < xd) = true := by simp; omega
                    have HE : Hid (R = false) := hideP (HBAD.out (by rw [HP.out]; simp; omega))
                    clear h7 h8
                    go_wp2
                    go_ret
                    exact ⟨retB HE.out.symm, HC.out.2⟩
                  have h8' : decide (6553600 < xd) = false := by simp; omega
                  have HOK : Hid (pairB gs ⟨xa, xb, -1, xd⟩ = true) := hideP (by rw [HP.out]; simp; omega)
                  clear h7 h8
                  go_wp2
                  go_roundw
                  case rel =>
                    refine ⟨k + 1, by omega, by go_num, hideP (fun j hj => ?_), hideP (fun j hj => ?_), HC⟩
                    · by_cases hjk : j = k
                      · subst hjk; rw [← HXX.out]; exact HOK.out
                      · exact HJ.out j (by omega)
                    · exact absurd HK0.out (by omega)
                  case measure => simp [intOf]; omega
                · have l1 : (xc == -1) = false := by simp [hl]
                  have l2 : decide (xc = -1) = false := by simp [hl]
                  by_cases h7 : xd = 0
                  rotate_left
                  · have h7a : (xd != 0) = true := by simp [h7]
                    have h7b : decide (xd = 0) = false := by simp [h7]
                    have h7c : (xd == 0) = false := by simp [h7]
                    have HE : Hid (R = false) := hideP (HBAD.out (by rw [HP.out]; simp [hl, h7]))
                    clear h7
                    go_wp2
                    go_ret
                    exact ⟨retB HE.out.symm, HC.out.2⟩
                  subst h7
                  go_wp2_with fail
                  refine (CC.out _ B2.out).mono ?_
                  rintro e v9 ⟨rfl, hb9⟩
                  have B9 : Hid (Below W.heap.size W v9) := hideP (below_more B2.out hb9 B2.out.size)
                  have HC9 := hideP (HBB.out _ B9.out)
                  clear hb9
                  cases hcb : hc
                  · have z1 : decide (zc < 0) = true := by rw [hzc, hcb]; rfl
                    have HE : Hid (R = false) := hideP (HBAD.out (by rw [HP.out, hcb]; simp [hl]))
                    clear hzc hcb
                    go_wp2
                    go_ret
                    exact ⟨retB HE.out.symm, HC9.out.2⟩
                  · have z1 : decide (zc < 0) = false := by rw [hzc, hcb]; rfl
                    have HOK : Hid (pairB gs ⟨xa, xb, xc, 0⟩ = true) := hideP (by rw [HP.out, hcb]; simp [hl])
                    clear hzc hcb
                    go_wp2
                    go_roundw
                    case rel =>
                      refine ⟨k + 1, by omega, by go_num, hideP (fun j hj => ?_), hideP (fun j hj => ?_), HC9⟩
                      · by_cases hjk : j = k
                        · subst hjk; rw [← HXX.out]; exact HOK.out
                        · exact HJ.out j (by omega)
                      · exact absurd HK0.out (by omega)
                    case measure => simp [intOf]; omega
          · have k1 : (0 : Int) < (k : Int) := by omega
            have k2 : 0 < k := by omega
            obtain ⟨hkm, HKM, f0, f1, f2, f3, hkn⟩ := PV (by omega)
            obtain ⟨lb, hlb⟩ : ∃ t, t = plB ⟨ya, yb, yc, yd⟩ ⟨xa, xb, xc, xd⟩ := ⟨_, rfl⟩
            have CPL : Hid (∀ x, Below W.heap.size W x → Calls Try.prog 31 #[.agg #[.int .i64 ya, .int .i64 yb, .int .i64 yc, .int .i64 yd], .agg #[.int .i64 xa, .int .i64 xb, .int .i64 xc, .int .i64 xd]] x fun e w' => e = .returned (.bool lb) ∧ Below x.heap.size x w') := hideP (fun x hx => by rw [hlb]; exact pairLess_any ⟨ya, yb, yc, yd⟩ ⟨xa, xb, xc, xd⟩ x)
            have HLB := hideP hlb
            have Q : Hid (∀ x : World, Below W.heap.size W x → x.cell? ⟨w.heap.size, 0, none⟩ = some (.string s) ∧ x.cell? ⟨w.heap.size, 1, none⟩ = some (.slice a1 n1 c1) ∧ x.cell? ⟨w.heap.size, 2, none⟩ = some (.slice (some ⟨b, off, none⟩) n2 c2) ∧ x.cell? ⟨w.heap.size, 3, none⟩ = some (.int .i64 g0) ∧ x.cell? ⟨w.heap.size, 4, none⟩ = some (.int .i64 g1) ∧ x.cell? ⟨w.heap.size, 5, none⟩ = some (.int .i64 0) ∧ x.cell? ⟨w.heap.size, 6, none⟩ = some (.int .i64 g3) ∧ x.cell? ⟨w.heap.size, 7, none⟩ = some (.int .i64 0) ∧ x.cell? ⟨w.heap.size, 8, none⟩ = some (.int .i64 q) ∧ x.cell? ⟨w.heap.size, 9, none⟩ = some (.int .i64 r) ∧ x.cell? ⟨wr.heap.size, 0, none⟩ = some (.int .i64 xa) ∧ x.cell? ⟨wr.heap.size, 1, none⟩ = some (.int .i64 xb) ∧ x.cell? ⟨wr.heap.size, 2, none⟩ = some (.int .i64 xc) ∧ x.cell? ⟨wr.heap.size, 3, none⟩ = some (.int .i64 xd) ∧ x.cell? ⟨b, off + km * 4, none⟩ = some (.int .i64 ya) ∧ x.cell? ⟨b, off + km * 4 + 1, none⟩ = some (.int .i64 yb) ∧ x.cell? ⟨b, off + km * 4 + 2, none⟩ = some (.int .i64 yc) ∧ x.cell? ⟨b, off + km * 4 + 3, none⟩ = some (.int .i64 yd)) := hideP (fun x hx => ⟨(hx.cell (p := ⟨w.heap.size, 0, none⟩) (Nat.lt_of_lt_of_le hzB bW.size)).trans ((bW.cell (p := ⟨w.heap.size, 0, none⟩) hzB).trans p0), (hx.cell (p := ⟨w.heap.size, 1, none⟩) (Nat.lt_of_lt_of_le hzB bW.size)).trans ((bW.cell (p := ⟨w.heap.size, 1, none⟩) hzB).trans p1), (hx.cell (p := ⟨w.heap.size, 2, none⟩) (Nat.lt_of_lt_of_le hzB bW.size)).trans ((bW.cell (p := ⟨w.heap.size, 2, none⟩) hzB).trans p2), (hx.cell (p := ⟨w.heap.size, 3, none⟩) (Nat.lt_of_lt_of_le hzB bW.size)).trans ((bW.cell (p := ⟨w.heap.size, 3, none⟩) hzB).trans p3), (hx.cell (p := ⟨w.heap.size, 4, none⟩) (Nat.lt_of_lt_of_le hzB bW.size)).trans ((bW.cell (p := ⟨w.heap.size, 4, none⟩) hzB).trans p4), (hx.cell (p := ⟨w.heap.size, 5, none⟩) (Nat.lt_of_lt_of_le hzB bW.size)).trans ((bW.cell (p := ⟨w.heap.size, 5, none⟩) hzB).trans p5), (hx.cell (p := ⟨w.heap.size, 6, none⟩) (Nat.lt_of_lt_of_le hzB bW.size)).trans ((bW.cell (p := ⟨w.heap.size, 6, none⟩) hzB).trans p6), (hx.cell (p := ⟨w.heap.size, 7, none⟩) (Nat.lt_of_lt_of_le hzB bW.size)).trans ((bW.cell (p := ⟨w.heap.size, 7, none⟩) hzB).trans p7), (hx.cell (p := ⟨w.heap.size, 8, none⟩) (Nat.lt_of_lt_of_le hzB bW.size)).trans ((bW.cell (p := ⟨w.heap.size, 8, none⟩) hzB).trans p8), (hx.cell (p := ⟨w.heap.size, 9, none⟩) (Nat.lt_of_lt_of_le hzB bW.size)).trans ((bW.cell (p := ⟨w.heap.size, 9, none⟩) hzB).trans p9), (hx.cell (p := ⟨wr.heap.size, 0, none⟩) hWs).trans l0, (hx.cell (p := ⟨wr.heap.size, 1, none⟩) hWs).trans l1, (hx.cell (p := ⟨wr.heap.size, 2, none⟩) hWs).trans l2, (hx.cell (p := ⟨wr.heap.size, 3, none⟩) hWs).trans l3, (hx.cell (p := ⟨b, off + km * 4, none⟩) (Nat.lt_of_lt_of_le hb bW.size)).trans ((bW.cell (p := ⟨b, off + km * 4, none⟩) hb).trans f0), (hx.cell (p := ⟨b, off + km * 4 + 1, none⟩) (Nat.lt_of_lt_of_le hb bW.size)).trans ((bW.cell (p := ⟨b, off + km * 4 + 1, none⟩) hb).trans f1), (hx.cell (p := ⟨b, off + km * 4 + 2, none⟩) (Nat.lt_of_lt_of_le hb bW.size)).trans ((bW.cell (p := ⟨b, off + km * 4 + 2, none⟩) hb).trans f2), (hx.cell (p := ⟨b, off + km * 4 + 3, none⟩) (Nat.lt_of_lt_of_le hb bW.size)).trans ((bW.cell (p := ⟨b, off + km * 4 + 3, none⟩) hb).trans f3)⟩)
            clear hk0 PV l0 l1 l2 l3 bW hlb f0 f1 f2 f3
            cases lb with
            | false =>
              have HE : Hid (R = false) := hideP (by rw [HR4.out, HPB.out, ps_back (j := km) (by rw [HKM.out]; exact HKL.out) (by rw [HKM.out, ← HXX.out, ← HYY.out]; exact HLB.out.symm)])
              clear hza hzb hzc
              go_wp2_with fail
              rw [← hW]
              clear hW
              refine wp_region_held_drew (S := fun x => x.cell? ⟨w.heap.size, 0, none⟩ = some (.string s) ∧ x.cell? ⟨w.heap.size, 1, none⟩ = some (.slice a1 n1 c1) ∧ x.cell? ⟨w.heap.size, 2, none⟩ = some (.slice (some ⟨b, off, none⟩) n2 c2) ∧ x.cell? ⟨w.heap.size, 3, none⟩ = some (.int .i64 g0) ∧ x.cell? ⟨w.heap.size, 4, none⟩ = some (.int .i64 g1) ∧ x.cell? ⟨w.heap.size, 5, none⟩ = some (.int .i64 0) ∧ x.cell? ⟨w.heap.size, 6, none⟩ = some (.int .i64 g3) ∧ x.cell? ⟨w.heap.size, 7, none⟩ = some (.int .i64 0) ∧ x.cell? ⟨w.heap.size, 8, none⟩ = some (.int .i64 q) ∧ x.cell? ⟨w.heap.size, 9, none⟩ = some (.int .i64 r) ∧ x.cell? ⟨wr.heap.size, 0, none⟩ = some (.int .i64 xa) ∧ x.cell? ⟨wr.heap.size, 1, none⟩ = some (.int .i64 xb) ∧ x.cell? ⟨wr.heap.size, 2, none⟩ = some (.int .i64 xc) ∧ x.cell? ⟨wr.heap.size, 3, none⟩ = some (.int .i64 xd) ∧ x.cell? ⟨b, off + km * 4, none⟩ = some (.int .i64 ya) ∧ x.cell? ⟨b, off + km * 4 + 1, none⟩ = some (.int .i64 yb) ∧ x.cell? ⟨b, off + km * 4 + 2, none⟩ = some (.int .i64 yc) ∧ x.cell? ⟨b, off + km * 4 + 3, none⟩ = some (.int .i64 yd)) (by kernel_rfl) (Q.out _ BD.out) (fun hS => ?_)
              refine wpAnyH_take (i := 0) (v := .int .i64 (k : Int)) rfl (by kernel_rfl) (by kernel_rfl) (by kernel_rfl) (fun _ _ _ h => h) (Or.inl ⟨by first | rfl | go_simp, fun wx hx => by obtain ⟨x0, x1, x2, x3, x4, x5, x6, x7, x8, x9, x10, x11, x12, x13, x14, x15, x16, x17⟩ := hx; go_simp⟩) hS ?_
              try simp only [Act.put, List.getElem_toArray, List.getElem_cons_zero, List.getElem_cons_succ, List.setIfInBounds_toArray, List.set_cons_zero, List.set_cons_succ]
              refine wpAnyH_take (i := 1) (v := .bool true) rfl (by kernel_rfl) (by kernel_rfl) (by kernel_rfl) (fun _ _ _ h => h) (Or.inl ⟨by first | rfl | go_simp, fun wx hx => by obtain ⟨x0, x1, x2, x3, x4, x5, x6, x7, x8, x9, x10, x11, x12, x13, x14, x15, x16, x17⟩ := hx; go_simp⟩) hS ?_
              try simp only [Act.put, List.getElem_toArray, List.getElem_cons_zero, List.getElem_cons_succ, List.setIfInBounds_toArray, List.set_cons_zero, List.set_cons_succ]
              refine wpAnyH_take (i := 2) (v := .bool true) rfl (by kernel_rfl) (by kernel_rfl) (by kernel_rfl) (fun _ _ _ h => h) (Or.inl ⟨by first | rfl | go_simp, fun wx hx => by obtain ⟨x0, x1, x2, x3, x4, x5, x6, x7, x8, x9, x10, x11, x12, x13, x14, x15, x16, x17⟩ := hx; go_simp⟩) hS ?_
              try simp only [Act.put, List.getElem_toArray, List.getElem_cons_zero, List.getElem_cons_succ, List.setIfInBounds_toArray, List.set_cons_zero, List.set_cons_succ]
              refine wpAnyH_take (i := 3) (v := .pointer (some ⟨w.heap.size, 2, none⟩)) rfl (by kernel_rfl) (by kernel_rfl) (by kernel_rfl) (fun _ _ _ h => h) (Or.inl ⟨by first | rfl | go_simp, fun wx hx => by obtain ⟨x0, x1, x2, x3, x4, x5, x6, x7, x8, x9, x10, x11, x12, x13, x14, x15, x16, x17⟩ := hx; go_simp⟩) hS ?_
              try simp only [Act.put, List.getElem_toArray, List.getElem_cons_zero, List.getElem_cons_succ, List.setIfInBounds_toArray, List.set_cons_zero, List.set_cons_succ]
              refine wpAnyH_take (i := 4) (v := .slice (some ⟨b, off, none⟩) n2 c2) rfl (by kernel_rfl) (by kernel_rfl) (by kernel_rfl) (fun _ _ _ h => h) (Or.inl ⟨by first | rfl | go_simp, fun wx hx => by obtain ⟨x0, x1, x2, x3, x4, x5, x6, x7, x8, x9, x10, x11, x12, x13, x14, x15, x16, x17⟩ := hx; go_simp⟩) hS ?_
              try simp only [Act.put, List.getElem_toArray, List.getElem_cons_zero, List.getElem_cons_succ, List.setIfInBounds_toArray, List.set_cons_zero, List.set_cons_succ]
              refine wpAnyH_take (i := 5) (v := .int .i64 (k : Int)) rfl (by kernel_rfl) (by kernel_rfl) (by kernel_rfl) (fun _ _ _ h => h) (Or.inl ⟨by first | rfl | go_simp, fun wx hx => by obtain ⟨x0, x1, x2, x3, x4, x5, x6, x7, x8, x9, x10, x11, x12, x13, x14, x15, x16, x17⟩ := hx; go_simp⟩) hS ?_
              try simp only [Act.put, List.getElem_toArray, List.getElem_cons_zero, List.getElem_cons_succ, List.setIfInBounds_toArray, List.set_cons_zero, List.set_cons_succ]
              refine wpAnyH_take (i := 6) (v := .int .i64 (km : Int)) rfl (by kernel_rfl) (by kernel_rfl) (by kernel_rfl) (fun _ _ _ h => h) (Or.inl ⟨by first | rfl | go_simp, fun wx hx => by obtain ⟨x0, x1, x2, x3, x4, x5, x6, x7, x8, x9, x10, x11, x12, x13, x14, x15, x16, x17⟩ := hx; go_simp⟩) hS ?_
              try simp only [Act.put, List.getElem_toArray, List.getElem_cons_zero, List.getElem_cons_succ, List.setIfInBounds_toArray, List.set_cons_zero, List.set_cons_succ]
              refine wpAnyH_take (i := 7) (v := .pointer (some ⟨b, off + km * 4, none⟩)) rfl (by kernel_rfl) (by kernel_rfl) (by kernel_rfl) (fun _ _ _ h => h) (Or.inl ⟨by first | rfl | go_simp, fun wx hx => by obtain ⟨x0, x1, x2, x3, x4, x5, x6, x7, x8, x9, x10, x11, x12, x13, x14, x15, x16, x17⟩ := hx; go_simp⟩) hS ?_
              try simp only [Act.put, List.getElem_toArray, List.getElem_cons_zero, List.getElem_cons_succ, List.setIfInBounds_toArray, List.set_cons_zero, List.set_cons_succ]
              refine wpAnyH_take (i := 8) (v := .agg #[.int .i64 ya, .int .i64 yb, .int .i64 yc, .int .i64 yd]) rfl (by kernel_rfl) (by kernel_rfl) (by kernel_rfl) (fun _ _ _ h => h) (Or.inl ⟨by first | rfl | go_simp, fun wx hx => by obtain ⟨x0, x1, x2, x3, x4, x5, x6, x7, x8, x9, x10, x11, x12, x13, x14, x15, x16, x17⟩ := hx; go_simp⟩) hS ?_
              try simp only [Act.put, List.getElem_toArray, List.getElem_cons_zero, List.getElem_cons_succ, List.setIfInBounds_toArray, List.set_cons_zero, List.set_cons_succ]
              refine wpAnyH_take (i := 9) (v := .agg #[.int .i64 xa, .int .i64 xb, .int .i64 xc, .int .i64 xd]) rfl (by kernel_rfl) (by kernel_rfl) (by kernel_rfl) (fun _ _ _ h => h) (Or.inl ⟨by first | rfl | go_simp, fun wx hx => by obtain ⟨x0, x1, x2, x3, x4, x5, x6, x7, x8, x9, x10, x11, x12, x13, x14, x15, x16, x17⟩ := hx; go_simp⟩) hS ?_
              try simp only [Act.put, List.getElem_toArray, List.getElem_cons_zero, List.getElem_cons_succ, List.setIfInBounds_toArray, List.set_cons_zero, List.set_cons_succ]
              refine wpAnyH_ready (rs := [10]) (by kernel_rfl) (by simp) ?_
              refine AllReadyH.cons rfl (fun K hK => ?_) AllReadyH.nil
              rw [if_pos (by first | rfl | go_simp)]
              go_wp2_with (go_at_call 31; refine (CPL.out _ BD.out).mono ?_; rintro e v1 ⟨rfl, hb1⟩; have B1 : Hid (Below W.heap.size W v1) := hideP (below_more BD.out hb1 BD.out.size); clear hb1)
              refine hK.out _ _ (Q.out _ B1.out) (fun hS1 => ?_)
              try simp only [Act.put, List.getElem_toArray, List.getElem_cons_zero, List.getElem_cons_succ, List.setIfInBounds_toArray, List.set_cons_zero, List.set_cons_succ]
              refine wpAnyH_take (i := 11) (v := .bool true) rfl (by kernel_rfl) (by kernel_rfl) (by kernel_rfl) (fun _ _ _ h => h) (Or.inl ⟨by first | rfl | go_simp, fun wx hx => by obtain ⟨x0, x1, x2, x3, x4, x5, x6, x7, x8, x9, x10, x11, x12, x13, x14, x15, x16, x17⟩ := hx; go_simp⟩) hS1 ?_
              try simp only [Act.put, List.getElem_toArray, List.getElem_cons_zero, List.getElem_cons_succ, List.setIfInBounds_toArray, List.set_cons_zero, List.set_cons_succ]
              refine wpAnyH_take (i := 12) (v := .bool true) rfl (by kernel_rfl) (by kernel_rfl) (by kernel_rfl) (fun _ _ _ h => h) (Or.inl ⟨by first | rfl | go_simp, fun wx hx => by obtain ⟨x0, x1, x2, x3, x4, x5, x6, x7, x8, x9, x10, x11, x12, x13, x14, x15, x16, x17⟩ := hx; go_simp⟩) hS1 ?_
              try simp only [Act.put, List.getElem_toArray, List.getElem_cons_zero, List.getElem_cons_succ, List.setIfInBounds_toArray, List.set_cons_zero, List.set_cons_succ]
              refine wpAnyH_take (i := 13) (v := .bool true) rfl (by kernel_rfl) (by kernel_rfl) (by kernel_rfl) (fun _ _ _ h => h) (Or.inl ⟨by first | rfl | go_simp, fun wx hx => by obtain ⟨x0, x1, x2, x3, x4, x5, x6, x7, x8, x9, x10, x11, x12, x13, x14, x15, x16, x17⟩ := hx; go_simp⟩) hS1 ?_
              try simp only [Act.put, List.getElem_toArray, List.getElem_cons_zero, List.getElem_cons_succ, List.setIfInBounds_toArray, List.set_cons_zero, List.set_cons_succ]
              refine wpAnyH_take (i := 14) (v := undef) rfl (by kernel_rfl) (by kernel_rfl) (by kernel_rfl) (fun _ _ _ h => h) (Or.inr ⟨by first | (go_simp; done) | (go_simp; intro h; cases h; done) | (go_simp; simp [undef]; done), rfl⟩) hS1 ?_
              try simp only [Act.put, List.getElem_toArray, List.getElem_cons_zero, List.getElem_cons_succ, List.setIfInBounds_toArray, List.set_cons_zero, List.set_cons_succ]
              refine wpAnyH_take (i := 15) (v := undef) rfl (by kernel_rfl) (by kernel_rfl) (by kernel_rfl) (fun _ _ _ h => h) (Or.inr ⟨by first | (go_simp; done) | (go_simp; intro h; cases h; done) | (go_simp; simp [undef]; done), rfl⟩) hS1 ?_
              try simp only [Act.put, List.getElem_toArray, List.getElem_cons_zero, List.getElem_cons_succ, List.setIfInBounds_toArray, List.set_cons_zero, List.set_cons_succ]
              refine wpAnyH_take (i := 16) (v := undef) rfl (by kernel_rfl) (by kernel_rfl) (by kernel_rfl) (fun _ _ _ h => h) (Or.inr ⟨by first | (go_simp; done) | (go_simp; intro h; cases h; done) | (go_simp; simp [undef]; done), rfl⟩) hS1 ?_
              try simp only [Act.put, List.getElem_toArray, List.getElem_cons_zero, List.getElem_cons_succ, List.setIfInBounds_toArray, List.set_cons_zero, List.set_cons_succ]
              refine wpAnyH_take (i := 17) (v := undef) rfl (by kernel_rfl) (by kernel_rfl) (by kernel_rfl) (fun _ _ _ h => h) (Or.inr ⟨by first | (go_simp; done) | (go_simp; intro h; cases h; done) | (go_simp; simp [undef]; done), rfl⟩) hS1 ?_
              try simp only [Act.put, List.getElem_toArray, List.getElem_cons_zero, List.getElem_cons_succ, List.setIfInBounds_toArray, List.set_cons_zero, List.set_cons_succ]
              refine wpAnyH_take (i := 18) (v := undef) rfl (by kernel_rfl) (by kernel_rfl) (by kernel_rfl) (fun _ _ _ h => h) (Or.inr ⟨by first | (go_simp; done) | (go_simp; intro h; cases h; done) | (go_simp; simp [undef]; done), rfl⟩) hS1 ?_
              try simp only [Act.put, List.getElem_toArray, List.getElem_cons_zero, List.getElem_cons_succ, List.setIfInBounds_toArray, List.set_cons_zero, List.set_cons_succ]
              refine wpAnyH_take (i := 19) (v := .bool true) rfl (by kernel_rfl) (by kernel_rfl) (by kernel_rfl) (fun _ _ _ h => h) (Or.inl ⟨by first | rfl | go_simp, fun wx hx => by obtain ⟨x0, x1, x2, x3, x4, x5, x6, x7, x8, x9, x10, x11, x12, x13, x14, x15, x16, x17⟩ := hx; go_simp⟩) hS1 ?_
              try simp only [Act.put, List.getElem_toArray, List.getElem_cons_zero, List.getElem_cons_succ, List.setIfInBounds_toArray, List.set_cons_zero, List.set_cons_succ]
              refine wpAnyH_take (i := 20) (v := .bool true) rfl (by kernel_rfl) (by kernel_rfl) (by kernel_rfl) (fun _ _ _ h => h) (Or.inl ⟨by first | rfl | go_simp, fun wx hx => by obtain ⟨x0, x1, x2, x3, x4, x5, x6, x7, x8, x9, x10, x11, x12, x13, x14, x15, x16, x17⟩ := hx; go_simp⟩) hS1 ?_
              try simp only [Act.put, List.getElem_toArray, List.getElem_cons_zero, List.getElem_cons_succ, List.setIfInBounds_toArray, List.set_cons_zero, List.set_cons_succ]
              refine wpAnyH_take (i := 21) (v := undef) rfl (by kernel_rfl) (by kernel_rfl) (by kernel_rfl) (fun _ _ _ h => h) (Or.inr ⟨by first | (go_simp; done) | (go_simp; intro h; cases h; done) | (go_simp; simp [undef]; done), rfl⟩) hS1 ?_
              try simp only [Act.put, List.getElem_toArray, List.getElem_cons_zero, List.getElem_cons_succ, List.setIfInBounds_toArray, List.set_cons_zero, List.set_cons_succ]
              refine wpAnyH_take (i := 22) (v := undef) rfl (by kernel_rfl) (by kernel_rfl) (by kernel_rfl) (fun _ _ _ h => h) (Or.inr ⟨by first | (go_simp; done) | (go_simp; intro h; cases h; done) | (go_simp; simp [undef]; done), rfl⟩) hS1 ?_
              try simp only [Act.put, List.getElem_toArray, List.getElem_cons_zero, List.getElem_cons_succ, List.setIfInBounds_toArray, List.set_cons_zero, List.set_cons_succ]
              refine wpAnyH_take (i := 23) (v := undef) rfl (by kernel_rfl) (by kernel_rfl) (by kernel_rfl) (fun _ _ _ h => h) (Or.inr ⟨by first | (go_simp; done) | (go_simp; intro h; cases h; done) | (go_simp; simp [undef]; done), rfl⟩) hS1 ?_
              try simp only [Act.put, List.getElem_toArray, List.getElem_cons_zero, List.getElem_cons_succ, List.setIfInBounds_toArray, List.set_cons_zero, List.set_cons_succ]
              refine wpAnyH_take (i := 24) (v := undef) rfl (by kernel_rfl) (by kernel_rfl) (by kernel_rfl) (fun _ _ _ h => h) (Or.inr ⟨by first | (go_simp; done) | (go_simp; intro h; cases h; done) | (go_simp; simp [undef]; done), rfl⟩) hS1 ?_
              try simp only [Act.put, List.getElem_toArray, List.getElem_cons_zero, List.getElem_cons_succ, List.setIfInBounds_toArray, List.set_cons_zero, List.set_cons_succ]
              refine wpAnyH_take (i := 25) (v := undef) rfl (by kernel_rfl) (by kernel_rfl) (by kernel_rfl) (fun _ _ _ h => h) (Or.inr ⟨by first | (go_simp; done) | (go_simp; intro h; cases h; done) | (go_simp; simp [undef]; done), rfl⟩) hS1 ?_
              try simp only [Act.put, List.getElem_toArray, List.getElem_cons_zero, List.getElem_cons_succ, List.setIfInBounds_toArray, List.set_cons_zero, List.set_cons_succ]
              refine wpAnyH_take (i := 26) (v := .bool true) rfl (by kernel_rfl) (by kernel_rfl) (by kernel_rfl) (fun _ _ _ h => h) (Or.inl ⟨by first | rfl | go_simp, fun wx hx => by obtain ⟨x0, x1, x2, x3, x4, x5, x6, x7, x8, x9, x10, x11, x12, x13, x14, x15, x16, x17⟩ := hx; go_simp⟩) hS1 ?_
              try simp only [Act.put, List.getElem_toArray, List.getElem_cons_zero, List.getElem_cons_succ, List.setIfInBounds_toArray, List.set_cons_zero, List.set_cons_succ]
              refine wpAnyH_done (by kernel_rfl) ?_ _
              clear hS hS1 hK
              go_wp2
              go_ret
              exact ⟨retB HE.out.symm, (HBB.out _ B1.out).2⟩
            | true =>
            have HLT : Hid (plB (ps.getD km Q4.none) (ps.getD (km + 1) Q4.none) = true) := hideP (by rw [HKM.out, ← HXX.out, ← HYY.out]; exact HLB.out.symm)
            cases ha : ha0
            · have z1 : decide (za < 0) = true := by rw [hza, ha]; rfl
              have HE : Hid (R = false) := hideP (HBAD.out (by rw [HP.out, ha]; simp))
              clear hza hzb hzc ha
              go_wp2_with fail
              rw [← hW]
              clear hW
              refine wp_region_held_drew (S := fun x => x.cell? ⟨w.heap.size, 0, none⟩ = some (.string s) ∧ x.cell? ⟨w.heap.size, 1, none⟩ = some (.slice a1 n1 c1) ∧ x.cell? ⟨w.heap.size, 2, none⟩ = some (.slice (some ⟨b, off, none⟩) n2 c2) ∧ x.cell? ⟨w.heap.size, 3, none⟩ = some (.int .i64 g0) ∧ x.cell? ⟨w.heap.size, 4, none⟩ = some (.int .i64 g1) ∧ x.cell? ⟨w.heap.size, 5, none⟩ = some (.int .i64 0) ∧ x.cell? ⟨w.heap.size, 6, none⟩ = some (.int .i64 g3) ∧ x.cell? ⟨w.heap.size, 7, none⟩ = some (.int .i64 0) ∧ x.cell? ⟨w.heap.size, 8, none⟩ = some (.int .i64 q) ∧ x.cell? ⟨w.heap.size, 9, none⟩ = some (.int .i64 r) ∧ x.cell? ⟨wr.heap.size, 0, none⟩ = some (.int .i64 xa) ∧ x.cell? ⟨wr.heap.size, 1, none⟩ = some (.int .i64 xb) ∧ x.cell? ⟨wr.heap.size, 2, none⟩ = some (.int .i64 xc) ∧ x.cell? ⟨wr.heap.size, 3, none⟩ = some (.int .i64 xd) ∧ x.cell? ⟨b, off + km * 4, none⟩ = some (.int .i64 ya) ∧ x.cell? ⟨b, off + km * 4 + 1, none⟩ = some (.int .i64 yb) ∧ x.cell? ⟨b, off + km * 4 + 2, none⟩ = some (.int .i64 yc) ∧ x.cell? ⟨b, off + km * 4 + 3, none⟩ = some (.int .i64 yd)) (by kernel_rfl) (Q.out _ BD.out) (fun hS => ?_)
              refine wpAnyH_take (i := 0) (v := .int .i64 (k : Int)) rfl (by kernel_rfl) (by kernel_rfl) (by kernel_rfl) (fun _ _ _ h => h) (Or.inl ⟨by first | rfl | go_simp, fun wx hx => by obtain ⟨x0, x1, x2, x3, x4, x5, x6, x7, x8, x9, x10, x11, x12, x13, x14, x15, x16, x17⟩ := hx; go_simp⟩) hS ?_
              try simp only [Act.put, List.getElem_toArray, List.getElem_cons_zero, List.getElem_cons_succ, List.setIfInBounds_toArray, List.set_cons_zero, List.set_cons_succ]
              refine wpAnyH_take (i := 1) (v := .bool true) rfl (by kernel_rfl) (by kernel_rfl) (by kernel_rfl) (fun _ _ _ h => h) (Or.inl ⟨by first | rfl | go_simp, fun wx hx => by obtain ⟨x0, x1, x2, x3, x4, x5, x6, x7, x8, x9, x10, x11, x12, x13, x14, x15, x16, x17⟩ := hx; go_simp⟩) hS ?_
              try simp only [Act.put, List.getElem_toArray, List.getElem_cons_zero, List.getElem_cons_succ, List.setIfInBounds_toArray, List.set_cons_zero, List.set_cons_succ]
              refine wpAnyH_take (i := 2) (v := .bool true) rfl (by kernel_rfl) (by kernel_rfl) (by kernel_rfl) (fun _ _ _ h => h) (Or.inl ⟨by first | rfl | go_simp, fun wx hx => by obtain ⟨x0, x1, x2, x3, x4, x5, x6, x7, x8, x9, x10, x11, x12, x13, x14, x15, x16, x17⟩ := hx; go_simp⟩) hS ?_
              try simp only [Act.put, List.getElem_toArray, List.getElem_cons_zero, List.getElem_cons_succ, List.setIfInBounds_toArray, List.set_cons_zero, List.set_cons_succ]
              refine wpAnyH_take (i := 3) (v := .pointer (some ⟨w.heap.size, 2, none⟩)) rfl (by kernel_rfl) (by kernel_rfl) (by kernel_rfl) (fun _ _ _ h => h) (Or.inl ⟨by first | rfl | go_simp, fun wx hx => by obtain ⟨x0, x1, x2, x3, x4, x5, x6, x7, x8, x9, x10, x11, x12, x13, x14, x15, x16, x17⟩ := hx; go_simp⟩) hS ?_
              try simp only [Act.put, List.getElem_toArray, List.getElem_cons_zero, List.getElem_cons_succ, List.setIfInBounds_toArray, List.set_cons_zero, List.set_cons_succ]
              refine wpAnyH_take (i := 4) (v := .slice (some ⟨b, off, none⟩) n2 c2) rfl (by kernel_rfl) (by kernel_rfl) (by kernel_rfl) (fun _ _ _ h => h) (Or.inl ⟨by first | rfl | go_simp, fun wx hx => by obtain ⟨x0, x1, x2, x3, x4, x5, x6, x7, x8, x9, x10, x11, x12, x13, x14, x15, x16, x17⟩ := hx; go_simp⟩) hS ?_
              try simp only [Act.put, List.getElem_toArray, List.getElem_cons_zero, List.getElem_cons_succ, List.setIfInBounds_toArray, List.set_cons_zero, List.set_cons_succ]
              refine wpAnyH_take (i := 5) (v := .int .i64 (k : Int)) rfl (by kernel_rfl) (by kernel_rfl) (by kernel_rfl) (fun _ _ _ h => h) (Or.inl ⟨by first | rfl | go_simp, fun wx hx => by obtain ⟨x0, x1, x2, x3, x4, x5, x6, x7, x8, x9, x10, x11, x12, x13, x14, x15, x16, x17⟩ := hx; go_simp⟩) hS ?_
              try simp only [Act.put, List.getElem_toArray, List.getElem_cons_zero, List.getElem_cons_succ, List.setIfInBounds_toArray, List.set_cons_zero, List.set_cons_succ]
              refine wpAnyH_take (i := 6) (v := .int .i64 (km : Int)) rfl (by kernel_rfl) (by kernel_rfl) (by kernel_rfl) (fun _ _ _ h => h) (Or.inl ⟨by first | rfl | go_simp, fun wx hx => by obtain ⟨x0, x1, x2, x3, x4, x5, x6, x7, x8, x9, x10, x11, x12, x13, x14, x15, x16, x17⟩ := hx; go_simp⟩) hS ?_
              try simp only [Act.put, List.getElem_toArray, List.getElem_cons_zero, List.getElem_cons_succ, List.setIfInBounds_toArray, List.set_cons_zero, List.set_cons_succ]
              refine wpAnyH_take (i := 7) (v := .pointer (some ⟨b, off + km * 4, none⟩)) rfl (by kernel_rfl) (by kernel_rfl) (by kernel_rfl) (fun _ _ _ h => h) (Or.inl ⟨by first | rfl | go_simp, fun wx hx => by obtain ⟨x0, x1, x2, x3, x4, x5, x6, x7, x8, x9, x10, x11, x12, x13, x14, x15, x16, x17⟩ := hx; go_simp⟩) hS ?_
              try simp only [Act.put, List.getElem_toArray, List.getElem_cons_zero, List.getElem_cons_succ, List.setIfInBounds_toArray, List.set_cons_zero, List.set_cons_succ]
              refine wpAnyH_take (i := 8) (v := .agg #[.int .i64 ya, .int .i64 yb, .int .i64 yc, .int .i64 yd]) rfl (by kernel_rfl) (by kernel_rfl) (by kernel_rfl) (fun _ _ _ h => h) (Or.inl ⟨by first | rfl | go_simp, fun wx hx => by obtain ⟨x0, x1, x2, x3, x4, x5, x6, x7, x8, x9, x10, x11, x12, x13, x14, x15, x16, x17⟩ := hx; go_simp⟩) hS ?_
              try simp only [Act.put, List.getElem_toArray, List.getElem_cons_zero, List.getElem_cons_succ, List.setIfInBounds_toArray, List.set_cons_zero, List.set_cons_succ]
              refine wpAnyH_take (i := 9) (v := .agg #[.int .i64 xa, .int .i64 xb, .int .i64 xc, .int .i64 xd]) rfl (by kernel_rfl) (by kernel_rfl) (by kernel_rfl) (fun _ _ _ h => h) (Or.inl ⟨by first | rfl | go_simp, fun wx hx => by obtain ⟨x0, x1, x2, x3, x4, x5, x6, x7, x8, x9, x10, x11, x12, x13, x14, x15, x16, x17⟩ := hx; go_simp⟩) hS ?_
              try simp only [Act.put, List.getElem_toArray, List.getElem_cons_zero, List.getElem_cons_succ, List.setIfInBounds_toArray, List.set_cons_zero, List.set_cons_succ]
              refine wpAnyH_ready (rs := [10]) (by kernel_rfl) (by simp) ?_
              refine AllReadyH.cons rfl (fun K hK => ?_) AllReadyH.nil
              rw [if_pos (by first | rfl | go_simp)]
              go_wp2_with (go_at_call 31; refine (CPL.out _ BD.out).mono ?_; rintro e v1 ⟨rfl, hb1⟩; have B1 : Hid (Below W.heap.size W v1) := hideP (below_more BD.out hb1 BD.out.size); clear hb1)
              refine hK.out _ _ (Q.out _ B1.out) (fun hS1 => ?_)
              try simp only [Act.put, List.getElem_toArray, List.getElem_cons_zero, List.getElem_cons_succ, List.setIfInBounds_toArray, List.set_cons_zero, List.set_cons_succ]
              refine wpAnyH_take (i := 11) (v := .bool false) rfl (by kernel_rfl) (by kernel_rfl) (by kernel_rfl) (fun _ _ _ h => h) (Or.inl ⟨by first | rfl | go_simp, fun wx hx => by obtain ⟨x0, x1, x2, x3, x4, x5, x6, x7, x8, x9, x10, x11, x12, x13, x14, x15, x16, x17⟩ := hx; go_simp⟩) hS1 ?_
              try simp only [Act.put, List.getElem_toArray, List.getElem_cons_zero, List.getElem_cons_succ, List.setIfInBounds_toArray, List.set_cons_zero, List.set_cons_succ]
              refine wpAnyH_take (i := 12) (v := .bool false) rfl (by kernel_rfl) (by kernel_rfl) (by kernel_rfl) (fun _ _ _ h => h) (Or.inl ⟨by first | rfl | go_simp, fun wx hx => by obtain ⟨x0, x1, x2, x3, x4, x5, x6, x7, x8, x9, x10, x11, x12, x13, x14, x15, x16, x17⟩ := hx; go_simp⟩) hS1 ?_
              try simp only [Act.put, List.getElem_toArray, List.getElem_cons_zero, List.getElem_cons_succ, List.setIfInBounds_toArray, List.set_cons_zero, List.set_cons_succ]
              refine wpAnyH_take (i := 13) (v := .bool false) rfl (by kernel_rfl) (by kernel_rfl) (by kernel_rfl) (fun _ _ _ h => h) (Or.inl ⟨by first | rfl | go_simp, fun wx hx => by obtain ⟨x0, x1, x2, x3, x4, x5, x6, x7, x8, x9, x10, x11, x12, x13, x14, x15, x16, x17⟩ := hx; go_simp⟩) hS1 ?_
              try simp only [Act.put, List.getElem_toArray, List.getElem_cons_zero, List.getElem_cons_succ, List.setIfInBounds_toArray, List.set_cons_zero, List.set_cons_succ]
              refine wpAnyH_take (i := 14) (v := .agg #[Value.string s, Value.slice a1 n1 c1, Value.slice (some ⟨b, off, none⟩) n2 c2, Value.int IntKind.i64 g0, Value.int IntKind.i64 g1, Value.int IntKind.i64 0, Value.int IntKind.i64 g3, Value.int IntKind.i64 0, Value.int IntKind.i64 q, Value.int IntKind.i64 r]) rfl (by kernel_rfl) (by kernel_rfl) (by kernel_rfl) (fun _ _ _ h => h) (Or.inl ⟨by first | rfl | go_simp, fun wx hx => by obtain ⟨x0, x1, x2, x3, x4, x5, x6, x7, x8, x9, x10, x11, x12, x13, x14, x15, x16, x17⟩ := hx; go_simp⟩) hS1 ?_
              try simp only [Act.put, List.getElem_toArray, List.getElem_cons_zero, List.getElem_cons_succ, List.setIfInBounds_toArray, List.set_cons_zero, List.set_cons_succ]
              refine wpAnyH_take (i := 15) (v := .pointer (some ⟨wr.heap.size, 0, none⟩)) rfl (by kernel_rfl) (by kernel_rfl) (by kernel_rfl) (fun _ _ _ h => h) (Or.inl ⟨by first | rfl | go_simp, fun wx hx => by obtain ⟨x0, x1, x2, x3, x4, x5, x6, x7, x8, x9, x10, x11, x12, x13, x14, x15, x16, x17⟩ := hx; go_simp⟩) hS1 ?_
              try simp only [Act.put, List.getElem_toArray, List.getElem_cons_zero, List.getElem_cons_succ, List.setIfInBounds_toArray, List.set_cons_zero, List.set_cons_succ]
              refine wpAnyH_take (i := 16) (v := .int .i64 xa) rfl (by kernel_rfl) (by kernel_rfl) (by kernel_rfl) (fun _ _ _ h => h) (Or.inl ⟨by first | rfl | go_simp, fun wx hx => by obtain ⟨x0, x1, x2, x3, x4, x5, x6, x7, x8, x9, x10, x11, x12, x13, x14, x15, x16, x17⟩ := hx; go_simp⟩) hS1 ?_
              try simp only [Act.put, List.getElem_toArray, List.getElem_cons_zero, List.getElem_cons_succ, List.setIfInBounds_toArray, List.set_cons_zero, List.set_cons_succ]
              refine wpAnyH_ready (rs := [17]) (by kernel_rfl) (by simp) ?_
              refine AllReadyH.cons rfl (fun K hK => ?_) AllReadyH.nil
              rw [if_pos (by first | rfl | go_simp)]
              go_wp2_with (go_at_call 32; refine (CA.out _ B1.out).mono ?_; rintro e v2 ⟨rfl, hb2⟩; have B2 : Hid (Below W.heap.size W v2) := hideP (below_more B1.out hb2 B1.out.size); clear hb2)
              refine hK.out _ _ (Q.out _ B2.out) (fun hS2 => ?_)
              try simp only [Act.put, List.getElem_toArray, List.getElem_cons_zero, List.getElem_cons_succ, List.setIfInBounds_toArray, List.set_cons_zero, List.set_cons_succ]
              refine wpAnyH_take (i := 18) (v := .bool true) rfl (by kernel_rfl) (by kernel_rfl) (by kernel_rfl) (fun _ _ _ h => h) (Or.inl ⟨by first | rfl | go_simp, fun wx hx => by obtain ⟨x0, x1, x2, x3, x4, x5, x6, x7, x8, x9, x10, x11, x12, x13, x14, x15, x16, x17⟩ := hx; go_simp⟩) hS2 ?_
              try simp only [Act.put, List.getElem_toArray, List.getElem_cons_zero, List.getElem_cons_succ, List.setIfInBounds_toArray, List.set_cons_zero, List.set_cons_succ]
              refine wpAnyH_take (i := 19) (v := .bool true) rfl (by kernel_rfl) (by kernel_rfl) (by kernel_rfl) (fun _ _ _ h => h) (Or.inl ⟨by first | rfl | go_simp, fun wx hx => by obtain ⟨x0, x1, x2, x3, x4, x5, x6, x7, x8, x9, x10, x11, x12, x13, x14, x15, x16, x17⟩ := hx; go_simp⟩) hS2 ?_
              try simp only [Act.put, List.getElem_toArray, List.getElem_cons_zero, List.getElem_cons_succ, List.setIfInBounds_toArray, List.set_cons_zero, List.set_cons_succ]
              refine wpAnyH_take (i := 20) (v := .bool true) rfl (by kernel_rfl) (by kernel_rfl) (by kernel_rfl) (fun _ _ _ h => h) (Or.inl ⟨by first | rfl | go_simp, fun wx hx => by obtain ⟨x0, x1, x2, x3, x4, x5, x6, x7, x8, x9, x10, x11, x12, x13, x14, x15, x16, x17⟩ := hx; go_simp⟩) hS2 ?_
              try simp only [Act.put, List.getElem_toArray, List.getElem_cons_zero, List.getElem_cons_succ, List.setIfInBounds_toArray, List.set_cons_zero, List.set_cons_succ]
              refine wpAnyH_take (i := 21) (v := undef) rfl (by kernel_rfl) (by kernel_rfl) (by kernel_rfl) (fun _ _ _ h => h) (Or.inr ⟨by first | (go_simp; done) | (go_simp; intro h; cases h; done) | (go_simp; simp [undef]; done), rfl⟩) hS2 ?_
              try simp only [Act.put, List.getElem_toArray, List.getElem_cons_zero, List.getElem_cons_succ, List.setIfInBounds_toArray, List.set_cons_zero, List.set_cons_succ]
              refine wpAnyH_take (i := 22) (v := undef) rfl (by kernel_rfl) (by kernel_rfl) (by kernel_rfl) (fun _ _ _ h => h) (Or.inr ⟨by first | (go_simp; done) | (go_simp; intro h; cases h; done) | (go_simp; simp [undef]; done), rfl⟩) hS2 ?_
              try simp only [Act.put, List.getElem_toArray, List.getElem_cons_zero, List.getElem_cons_succ, List.setIfInBounds_toArray, List.set_cons_zero, List.set_cons_succ]
              refine wpAnyH_take (i := 23) (v := undef) rfl (by kernel_rfl) (by kernel_rfl) (by kernel_rfl) (fun _ _ _ h => h) (Or.inr ⟨by first | (go_simp; done) | (go_simp; intro h; cases h; done) | (go_simp; simp [undef]; done), rfl⟩) hS2 ?_
              try simp only [Act.put, List.getElem_toArray, List.getElem_cons_zero, List.getElem_cons_succ, List.setIfInBounds_toArray, List.set_cons_zero, List.set_cons_succ]
              refine wpAnyH_take (i := 24) (v := undef) rfl (by kernel_rfl) (by kernel_rfl) (by kernel_rfl) (fun _ _ _ h => h) (Or.inr ⟨by first | (go_simp; done) | (go_simp; intro h; cases h; done) | (go_simp; simp [undef]; done), rfl⟩) hS2 ?_
              try simp only [Act.put, List.getElem_toArray, List.getElem_cons_zero, List.getElem_cons_succ, List.setIfInBounds_toArray, List.set_cons_zero, List.set_cons_succ]
              refine wpAnyH_take (i := 25) (v := undef) rfl (by kernel_rfl) (by kernel_rfl) (by kernel_rfl) (fun _ _ _ h => h) (Or.inr ⟨by first | (go_simp; done) | (go_simp; intro h; cases h; done) | (go_simp; simp [undef]; done), rfl⟩) hS2 ?_
              try simp only [Act.put, List.getElem_toArray, List.getElem_cons_zero, List.getElem_cons_succ, List.setIfInBounds_toArray, List.set_cons_zero, List.set_cons_succ]
              refine wpAnyH_take (i := 26) (v := .bool true) rfl (by kernel_rfl) (by kernel_rfl) (by kernel_rfl) (fun _ _ _ h => h) (Or.inl ⟨by first | rfl | go_simp, fun wx hx => by obtain ⟨x0, x1, x2, x3, x4, x5, x6, x7, x8, x9, x10, x11, x12, x13, x14, x15, x16, x17⟩ := hx; go_simp⟩) hS2 ?_
              try simp only [Act.put, List.getElem_toArray, List.getElem_cons_zero, List.getElem_cons_succ, List.setIfInBounds_toArray, List.set_cons_zero, List.set_cons_succ]
              refine wpAnyH_done (by kernel_rfl) ?_ _
              clear hS hS1 hS2 hK
              go_wp2
              go_ret
              exact ⟨retB HE.out.symm, (HBB.out _ B2.out).2⟩
            · have z1 : decide (za < 0) = false := by rw [hza, ha]; rfl
              cases hb' : hb0
              · have z2 : decide (zb < 0) = true := by rw [hzb, hb']; rfl
                have HE : Hid (R = false) := hideP (HBAD.out (by rw [HP.out, hb']; simp))
                clear hza hzb hzc ha hb'
                go_wp2_with fail
                rw [← hW]
                clear hW
                refine wp_region_held_drew (S := fun x => x.cell? ⟨w.heap.size, 0, none⟩ = some (.string s) ∧ x.cell? ⟨w.heap.size, 1, none⟩ = some (.slice a1 n1 c1) ∧ x.cell? ⟨w.heap.size, 2, none⟩ = some (.slice (some ⟨b, off, none⟩) n2 c2) ∧ x.cell? ⟨w.heap.size, 3, none⟩ = some (.int .i64 g0) ∧ x.cell? ⟨w.heap.size, 4, none⟩ = some (.int .i64 g1) ∧ x.cell? ⟨w.heap.size, 5, none⟩ = some (.int .i64 0) ∧ x.cell? ⟨w.heap.size, 6, none⟩ = some (.int .i64 g3) ∧ x.cell? ⟨w.heap.size, 7, none⟩ = some (.int .i64 0) ∧ x.cell? ⟨w.heap.size, 8, none⟩ = some (.int .i64 q) ∧ x.cell? ⟨w.heap.size, 9, none⟩ = some (.int .i64 r) ∧ x.cell? ⟨wr.heap.size, 0, none⟩ = some (.int .i64 xa) ∧ x.cell? ⟨wr.heap.size, 1, none⟩ = some (.int .i64 xb) ∧ x.cell? ⟨wr.heap.size, 2, none⟩ = some (.int .i64 xc) ∧ x.cell? ⟨wr.heap.size, 3, none⟩ = some (.int .i64 xd) ∧ x.cell? ⟨b, off + km * 4, none⟩ = some (.int .i64 ya) ∧ x.cell? ⟨b, off + km * 4 + 1, none⟩ = some (.int .i64 yb) ∧ x.cell? ⟨b, off + km * 4 + 2, none⟩ = some (.int .i64 yc) ∧ x.cell? ⟨b, off + km * 4 + 3, none⟩ = some (.int .i64 yd)) (by kernel_rfl) (Q.out _ BD.out) (fun hS => ?_)
                refine wpAnyH_take (i := 0) (v := .int .i64 (k : Int)) rfl (by kernel_rfl) (by kernel_rfl) (by kernel_rfl) (fun _ _ _ h => h) (Or.inl ⟨by first | rfl | go_simp, fun wx hx => by obtain ⟨x0, x1, x2, x3, x4, x5, x6, x7, x8, x9, x10, x11, x12, x13, x14, x15, x16, x17⟩ := hx; go_simp⟩) hS ?_
                try simp only [Act.put, List.getElem_toArray, List.getElem_cons_zero, List.getElem_cons_succ, List.setIfInBounds_toArray, List.set_cons_zero, List.set_cons_succ]
                refine wpAnyH_take (i := 1) (v := .bool true) rfl (by kernel_rfl) (by kernel_rfl) (by kernel_rfl) (fun _ _ _ h => h) (Or.inl ⟨by first | rfl | go_simp, fun wx hx => by obtain ⟨x0, x1, x2, x3, x4, x5, x6, x7, x8, x9, x10, x11, x12, x13, x14, x15, x16, x17⟩ := hx; go_simp⟩) hS ?_
                try simp only [Act.put, List.getElem_toArray, List.getElem_cons_zero, List.getElem_cons_succ, List.setIfInBounds_toArray, List.set_cons_zero, List.set_cons_succ]
                refine wpAnyH_take (i := 2) (v := .bool true) rfl (by kernel_rfl) (by kernel_rfl) (by kernel_rfl) (fun _ _ _ h => h) (Or.inl ⟨by first | rfl | go_simp, fun wx hx => by obtain ⟨x0, x1, x2, x3, x4, x5, x6, x7, x8, x9, x10, x11, x12, x13, x14, x15, x16, x17⟩ := hx; go_simp⟩) hS ?_
                try simp only [Act.put, List.getElem_toArray, List.getElem_cons_zero, List.getElem_cons_succ, List.setIfInBounds_toArray, List.set_cons_zero, List.set_cons_succ]
                refine wpAnyH_take (i := 3) (v := .pointer (some ⟨w.heap.size, 2, none⟩)) rfl (by kernel_rfl) (by kernel_rfl) (by kernel_rfl) (fun _ _ _ h => h) (Or.inl ⟨by first | rfl | go_simp, fun wx hx => by obtain ⟨x0, x1, x2, x3, x4, x5, x6, x7, x8, x9, x10, x11, x12, x13, x14, x15, x16, x17⟩ := hx; go_simp⟩) hS ?_
                try simp only [Act.put, List.getElem_toArray, List.getElem_cons_zero, List.getElem_cons_succ, List.setIfInBounds_toArray, List.set_cons_zero, List.set_cons_succ]
                refine wpAnyH_take (i := 4) (v := .slice (some ⟨b, off, none⟩) n2 c2) rfl (by kernel_rfl) (by kernel_rfl) (by kernel_rfl) (fun _ _ _ h => h) (Or.inl ⟨by first | rfl | go_simp, fun wx hx => by obtain ⟨x0, x1, x2, x3, x4, x5, x6, x7, x8, x9, x10, x11, x12, x13, x14, x15, x16, x17⟩ := hx; go_simp⟩) hS ?_
                try simp only [Act.put, List.getElem_toArray, List.getElem_cons_zero, List.getElem_cons_succ, List.setIfInBounds_toArray, List.set_cons_zero, List.set_cons_succ]
                refine wpAnyH_take (i := 5) (v := .int .i64 (k : Int)) rfl (by kernel_rfl) (by kernel_rfl) (by kernel_rfl) (fun _ _ _ h => h) (Or.inl ⟨by first | rfl | go_simp, fun wx hx => by obtain ⟨x0, x1, x2, x3, x4, x5, x6, x7, x8, x9, x10, x11, x12, x13, x14, x15, x16, x17⟩ := hx; go_simp⟩) hS ?_
                try simp only [Act.put, List.getElem_toArray, List.getElem_cons_zero, List.getElem_cons_succ, List.setIfInBounds_toArray, List.set_cons_zero, List.set_cons_succ]
                refine wpAnyH_take (i := 6) (v := .int .i64 (km : Int)) rfl (by kernel_rfl) (by kernel_rfl) (by kernel_rfl) (fun _ _ _ h => h) (Or.inl ⟨by first | rfl | go_simp, fun wx hx => by obtain ⟨x0, x1, x2, x3, x4, x5, x6, x7, x8, x9, x10, x11, x12, x13, x14, x15, x16, x17⟩ := hx; go_simp⟩) hS ?_
                try simp only [Act.put, List.getElem_toArray, List.getElem_cons_zero, List.getElem_cons_succ, List.setIfInBounds_toArray, List.set_cons_zero, List.set_cons_succ]
                refine wpAnyH_take (i := 7) (v := .pointer (some ⟨b, off + km * 4, none⟩)) rfl (by kernel_rfl) (by kernel_rfl) (by kernel_rfl) (fun _ _ _ h => h) (Or.inl ⟨by first | rfl | go_simp, fun wx hx => by obtain ⟨x0, x1, x2, x3, x4, x5, x6, x7, x8, x9, x10, x11, x12, x13, x14, x15, x16, x17⟩ := hx; go_simp⟩) hS ?_
                try simp only [Act.put, List.getElem_toArray, List.getElem_cons_zero, List.getElem_cons_succ, List.setIfInBounds_toArray, List.set_cons_zero, List.set_cons_succ]
                refine wpAnyH_take (i := 8) (v := .agg #[.int .i64 ya, .int .i64 yb, .int .i64 yc, .int .i64 yd]) rfl (by kernel_rfl) (by kernel_rfl) (by kernel_rfl) (fun _ _ _ h => h) (Or.inl ⟨by first | rfl | go_simp, fun wx hx => by obtain ⟨x0, x1, x2, x3, x4, x5, x6, x7, x8, x9, x10, x11, x12, x13, x14, x15, x16, x17⟩ := hx; go_simp⟩) hS ?_
                try simp only [Act.put, List.getElem_toArray, List.getElem_cons_zero, List.getElem_cons_succ, List.setIfInBounds_toArray, List.set_cons_zero, List.set_cons_succ]
                refine wpAnyH_take (i := 9) (v := .agg #[.int .i64 xa, .int .i64 xb, .int .i64 xc, .int .i64 xd]) rfl (by kernel_rfl) (by kernel_rfl) (by kernel_rfl) (fun _ _ _ h => h) (Or.inl ⟨by first | rfl | go_simp, fun wx hx => by obtain ⟨x0, x1, x2, x3, x4, x5, x6, x7, x8, x9, x10, x11, x12, x13, x14, x15, x16, x17⟩ := hx; go_simp⟩) hS ?_
                try simp only [Act.put, List.getElem_toArray, List.getElem_cons_zero, List.getElem_cons_succ, List.setIfInBounds_toArray, List.set_cons_zero, List.set_cons_succ]
                refine wpAnyH_ready (rs := [10]) (by kernel_rfl) (by simp) ?_
                refine AllReadyH.cons rfl (fun K hK => ?_) AllReadyH.nil
                rw [if_pos (by first | rfl | go_simp)]
                go_wp2_with (go_at_call 31; refine (CPL.out _ BD.out).mono ?_; rintro e v1 ⟨rfl, hb1⟩; have B1 : Hid (Below W.heap.size W v1) := hideP (below_more BD.out hb1 BD.out.size); clear hb1)
                refine hK.out _ _ (Q.out _ B1.out) (fun hS1 => ?_)
                try simp only [Act.put, List.getElem_toArray, List.getElem_cons_zero, List.getElem_cons_succ, List.setIfInBounds_toArray, List.set_cons_zero, List.set_cons_succ]
                refine wpAnyH_take (i := 11) (v := .bool false) rfl (by kernel_rfl) (by kernel_rfl) (by kernel_rfl) (fun _ _ _ h => h) (Or.inl ⟨by first | rfl | go_simp, fun wx hx => by obtain ⟨x0, x1, x2, x3, x4, x5, x6, x7, x8, x9, x10, x11, x12, x13, x14, x15, x16, x17⟩ := hx; go_simp⟩) hS1 ?_
                try simp only [Act.put, List.getElem_toArray, List.getElem_cons_zero, List.getElem_cons_succ, List.setIfInBounds_toArray, List.set_cons_zero, List.set_cons_succ]
                refine wpAnyH_take (i := 12) (v := .bool false) rfl (by kernel_rfl) (by kernel_rfl) (by kernel_rfl) (fun _ _ _ h => h) (Or.inl ⟨by first | rfl | go_simp, fun wx hx => by obtain ⟨x0, x1, x2, x3, x4, x5, x6, x7, x8, x9, x10, x11, x12, x13, x14, x15, x16, x17⟩ := hx; go_simp⟩) hS1 ?_
                try simp only [Act.put, List.getElem_toArray, List.getElem_cons_zero, List.getElem_cons_succ, List.setIfInBounds_toArray, List.set_cons_zero, List.set_cons_succ]
                refine wpAnyH_take (i := 13) (v := .bool false) rfl (by kernel_rfl) (by kernel_rfl) (by kernel_rfl) (fun _ _ _ h => h) (Or.inl ⟨by first | rfl | go_simp, fun wx hx => by obtain ⟨x0, x1, x2, x3, x4, x5, x6, x7, x8, x9, x10, x11, x12, x13, x14, x15, x16, x17⟩ := hx; go_simp⟩) hS1 ?_
                try simp only [Act.put, List.getElem_toArray, List.getElem_cons_zero, List.getElem_cons_succ, List.setIfInBounds_toArray, List.set_cons_zero, List.set_cons_succ]
                refine wpAnyH_take (i := 14) (v := .agg #[Value.string s, Value.slice a1 n1 c1, Value.slice (some ⟨b, off, none⟩) n2 c2, Value.int IntKind.i64 g0, Value.int IntKind.i64 g1, Value.int IntKind.i64 0, Value.int IntKind.i64 g3, Value.int IntKind.i64 0, Value.int IntKind.i64 q, Value.int IntKind.i64 r]) rfl (by kernel_rfl) (by kernel_rfl) (by kernel_rfl) (fun _ _ _ h => h) (Or.inl ⟨by first | rfl | go_simp, fun wx hx => by obtain ⟨x0, x1, x2, x3, x4, x5, x6, x7, x8, x9, x10, x11, x12, x13, x14, x15, x16, x17⟩ := hx; go_simp⟩) hS1 ?_
                try simp only [Act.put, List.getElem_toArray, List.getElem_cons_zero, List.getElem_cons_succ, List.setIfInBounds_toArray, List.set_cons_zero, List.set_cons_succ]
                refine wpAnyH_take (i := 15) (v := .pointer (some ⟨wr.heap.size, 0, none⟩)) rfl (by kernel_rfl) (by kernel_rfl) (by kernel_rfl) (fun _ _ _ h => h) (Or.inl ⟨by first | rfl | go_simp, fun wx hx => by obtain ⟨x0, x1, x2, x3, x4, x5, x6, x7, x8, x9, x10, x11, x12, x13, x14, x15, x16, x17⟩ := hx; go_simp⟩) hS1 ?_
                try simp only [Act.put, List.getElem_toArray, List.getElem_cons_zero, List.getElem_cons_succ, List.setIfInBounds_toArray, List.set_cons_zero, List.set_cons_succ]
                refine wpAnyH_take (i := 16) (v := .int .i64 xa) rfl (by kernel_rfl) (by kernel_rfl) (by kernel_rfl) (fun _ _ _ h => h) (Or.inl ⟨by first | rfl | go_simp, fun wx hx => by obtain ⟨x0, x1, x2, x3, x4, x5, x6, x7, x8, x9, x10, x11, x12, x13, x14, x15, x16, x17⟩ := hx; go_simp⟩) hS1 ?_
                try simp only [Act.put, List.getElem_toArray, List.getElem_cons_zero, List.getElem_cons_succ, List.setIfInBounds_toArray, List.set_cons_zero, List.set_cons_succ]
                refine wpAnyH_ready (rs := [17]) (by kernel_rfl) (by simp) ?_
                refine AllReadyH.cons rfl (fun K hK => ?_) AllReadyH.nil
                rw [if_pos (by first | rfl | go_simp)]
                go_wp2_with (go_at_call 32; refine (CA.out _ B1.out).mono ?_; rintro e v2 ⟨rfl, hb2⟩; have B2 : Hid (Below W.heap.size W v2) := hideP (below_more B1.out hb2 B1.out.size); clear hb2)
                refine hK.out _ _ (Q.out _ B2.out) (fun hS2 => ?_)
                try simp only [Act.put, List.getElem_toArray, List.getElem_cons_zero, List.getElem_cons_succ, List.setIfInBounds_toArray, List.set_cons_zero, List.set_cons_succ]
                refine wpAnyH_take (i := 18) (v := .bool false) rfl (by kernel_rfl) (by kernel_rfl) (by kernel_rfl) (fun _ _ _ h => h) (Or.inl ⟨by first | rfl | go_simp, fun wx hx => by obtain ⟨x0, x1, x2, x3, x4, x5, x6, x7, x8, x9, x10, x11, x12, x13, x14, x15, x16, x17⟩ := hx; go_simp⟩) hS2 ?_
                try simp only [Act.put, List.getElem_toArray, List.getElem_cons_zero, List.getElem_cons_succ, List.setIfInBounds_toArray, List.set_cons_zero, List.set_cons_succ]
                refine wpAnyH_take (i := 19) (v := .bool false) rfl (by kernel_rfl) (by kernel_rfl) (by kernel_rfl) (fun _ _ _ h => h) (Or.inl ⟨by first | rfl | go_simp, fun wx hx => by obtain ⟨x0, x1, x2, x3, x4, x5, x6, x7, x8, x9, x10, x11, x12, x13, x14, x15, x16, x17⟩ := hx; go_simp⟩) hS2 ?_
                try simp only [Act.put, List.getElem_toArray, List.getElem_cons_zero, List.getElem_cons_succ, List.setIfInBounds_toArray, List.set_cons_zero, List.set_cons_succ]
                refine wpAnyH_take (i := 20) (v := .bool false) rfl (by kernel_rfl) (by kernel_rfl) (by kernel_rfl) (fun _ _ _ h => h) (Or.inl ⟨by first | rfl | go_simp, fun wx hx => by obtain ⟨x0, x1, x2, x3, x4, x5, x6, x7, x8, x9, x10, x11, x12, x13, x14, x15, x16, x17⟩ := hx; go_simp⟩) hS2 ?_
                try simp only [Act.put, List.getElem_toArray, List.getElem_cons_zero, List.getElem_cons_succ, List.setIfInBounds_toArray, List.set_cons_zero, List.set_cons_succ]
                refine wpAnyH_take (i := 21) (v := .agg #[Value.string s, Value.slice a1 n1 c1, Value.slice (some ⟨b, off, none⟩) n2 c2, Value.int IntKind.i64 g0, Value.int IntKind.i64 g1, Value.int IntKind.i64 0, Value.int IntKind.i64 g3, Value.int IntKind.i64 0, Value.int IntKind.i64 q, Value.int IntKind.i64 r]) rfl (by kernel_rfl) (by kernel_rfl) (by kernel_rfl) (fun _ _ _ h => h) (Or.inl ⟨by first | rfl | go_simp, fun wx hx => by obtain ⟨x0, x1, x2, x3, x4, x5, x6, x7, x8, x9, x10, x11, x12, x13, x14, x15, x16, x17⟩ := hx; go_simp⟩) hS2 ?_
                try simp only [Act.put, List.getElem_toArray, List.getElem_cons_zero, List.getElem_cons_succ, List.setIfInBounds_toArray, List.set_cons_zero, List.set_cons_succ]
                refine wpAnyH_take (i := 22) (v := .pointer (some ⟨wr.heap.size, 1, none⟩)) rfl (by kernel_rfl) (by kernel_rfl) (by kernel_rfl) (fun _ _ _ h => h) (Or.inl ⟨by first | rfl | go_simp, fun wx hx => by obtain ⟨x0, x1, x2, x3, x4, x5, x6, x7, x8, x9, x10, x11, x12, x13, x14, x15, x16, x17⟩ := hx; go_simp⟩) hS2 ?_
                try simp only [Act.put, List.getElem_toArray, List.getElem_cons_zero, List.getElem_cons_succ, List.setIfInBounds_toArray, List.set_cons_zero, List.set_cons_succ]
                refine wpAnyH_take (i := 23) (v := .int .i64 xb) rfl (by kernel_rfl) (by kernel_rfl) (by kernel_rfl) (fun _ _ _ h => h) (Or.inl ⟨by first | rfl | go_simp, fun wx hx => by obtain ⟨x0, x1, x2, x3, x4, x5, x6, x7, x8, x9, x10, x11, x12, x13, x14, x15, x16, x17⟩ := hx; go_simp⟩) hS2 ?_
                try simp only [Act.put, List.getElem_toArray, List.getElem_cons_zero, List.getElem_cons_succ, List.setIfInBounds_toArray, List.set_cons_zero, List.set_cons_succ]
                refine wpAnyH_ready (rs := [24]) (by kernel_rfl) (by simp) ?_
                refine AllReadyH.cons rfl (fun K hK => ?_) AllReadyH.nil
                rw [if_pos (by first | rfl | go_simp)]
                go_wp2_with (go_at_call 32; refine (CB.out _ B2.out).mono ?_; rintro e v3 ⟨rfl, hb3⟩; have B3 : Hid (Below W.heap.size W v3) := hideP (below_more B2.out hb3 B2.out.size); clear hb3)
                refine hK.out _ _ (Q.out _ B3.out) (fun hS3 => ?_)
                try simp only [Act.put, List.getElem_toArray, List.getElem_cons_zero, List.getElem_cons_succ, List.setIfInBounds_toArray, List.set_cons_zero, List.set_cons_succ]
                refine wpAnyH_take (i := 25) (v := .bool true) rfl (by kernel_rfl) (by kernel_rfl) (by kernel_rfl) (fun _ _ _ h => h) (Or.inl ⟨by first | rfl | go_simp, fun wx hx => by obtain ⟨x0, x1, x2, x3, x4, x5, x6, x7, x8, x9, x10, x11, x12, x13, x14, x15, x16, x17⟩ := hx; go_simp⟩) hS3 ?_
                try simp only [Act.put, List.getElem_toArray, List.getElem_cons_zero, List.getElem_cons_succ, List.setIfInBounds_toArray, List.set_cons_zero, List.set_cons_succ]
                refine wpAnyH_take (i := 26) (v := .bool true) rfl (by kernel_rfl) (by kernel_rfl) (by kernel_rfl) (fun _ _ _ h => h) (Or.inl ⟨by first | rfl | go_simp, fun wx hx => by obtain ⟨x0, x1, x2, x3, x4, x5, x6, x7, x8, x9, x10, x11, x12, x13, x14, x15, x16, x17⟩ := hx; go_simp⟩) hS3 ?_
                try simp only [Act.put, List.getElem_toArray, List.getElem_cons_zero, List.getElem_cons_succ, List.setIfInBounds_toArray, List.set_cons_zero, List.set_cons_succ]
                refine wpAnyH_done (by kernel_rfl) ?_ _
                clear hS hS1 hS2 hS3 hK
                go_wp2
                go_ret
                exact ⟨retB HE.out.symm, (HBB.out _ B3.out).2⟩
              · have z2 : decide (zb < 0) = false := by rw [hzb, hb']; rfl
                subst ha hb'
                clear hza hzb
                go_wp2_with fail
                rw [← hW]
                clear hW
                refine wp_region_held_drew (S := fun x => x.cell? ⟨w.heap.size, 0, none⟩ = some (.string s) ∧ x.cell? ⟨w.heap.size, 1, none⟩ = some (.slice a1 n1 c1) ∧ x.cell? ⟨w.heap.size, 2, none⟩ = some (.slice (some ⟨b, off, none⟩) n2 c2) ∧ x.cell? ⟨w.heap.size, 3, none⟩ = some (.int .i64 g0) ∧ x.cell? ⟨w.heap.size, 4, none⟩ = some (.int .i64 g1) ∧ x.cell? ⟨w.heap.size, 5, none⟩ = some (.int .i64 0) ∧ x.cell? ⟨w.heap.size, 6, none⟩ = some (.int .i64 g3) ∧ x.cell? ⟨w.heap.size, 7, none⟩ = some (.int .i64 0) ∧ x.cell? ⟨w.heap.size, 8, none⟩ = some (.int .i64 q) ∧ x.cell? ⟨w.heap.size, 9, none⟩ = some (.int .i64 r) ∧ x.cell? ⟨wr.heap.size, 0, none⟩ = some (.int .i64 xa) ∧ x.cell? ⟨wr.heap.size, 1, none⟩ = some (.int .i64 xb) ∧ x.cell? ⟨wr.heap.size, 2, none⟩ = some (.int .i64 xc) ∧ x.cell? ⟨wr.heap.size, 3, none⟩ = some (.int .i64 xd) ∧ x.cell? ⟨b, off + km * 4, none⟩ = some (.int .i64 ya) ∧ x.cell? ⟨b, off + km * 4 + 1, none⟩ = some (.int .i64 yb) ∧ x.cell? ⟨b, off + km * 4 + 2, none⟩ = some (.int .i64 yc) ∧ x.cell? ⟨b, off + km * 4 + 3, none⟩ = some (.int .i64 yd)) (by kernel_rfl) (Q.out _ BD.out) (fun hS => ?_)
                refine wpAnyH_take (i := 0) (v := .int .i64 (k : Int)) rfl (by kernel_rfl) (by kernel_rfl) (by kernel_rfl) (fun _ _ _ h => h) (Or.inl ⟨by first | rfl | go_simp, fun wx hx => by obtain ⟨x0, x1, x2, x3, x4, x5, x6, x7, x8, x9, x10, x11, x12, x13, x14, x15, x16, x17⟩ := hx; go_simp⟩) hS ?_
                try simp only [Act.put, List.getElem_toArray, List.getElem_cons_zero, List.getElem_cons_succ, List.setIfInBounds_toArray, List.set_cons_zero, List.set_cons_succ]
                refine wpAnyH_take (i := 1) (v := .bool true) rfl (by kernel_rfl) (by kernel_rfl) (by kernel_rfl) (fun _ _ _ h => h) (Or.inl ⟨by first | rfl | go_simp, fun wx hx => by obtain ⟨x0, x1, x2, x3, x4, x5, x6, x7, x8, x9, x10, x11, x12, x13, x14, x15, x16, x17⟩ := hx; go_simp⟩) hS ?_
                try simp only [Act.put, List.getElem_toArray, List.getElem_cons_zero, List.getElem_cons_succ, List.setIfInBounds_toArray, List.set_cons_zero, List.set_cons_succ]
                refine wpAnyH_take (i := 2) (v := .bool true) rfl (by kernel_rfl) (by kernel_rfl) (by kernel_rfl) (fun _ _ _ h => h) (Or.inl ⟨by first | rfl | go_simp, fun wx hx => by obtain ⟨x0, x1, x2, x3, x4, x5, x6, x7, x8, x9, x10, x11, x12, x13, x14, x15, x16, x17⟩ := hx; go_simp⟩) hS ?_
                try simp only [Act.put, List.getElem_toArray, List.getElem_cons_zero, List.getElem_cons_succ, List.setIfInBounds_toArray, List.set_cons_zero, List.set_cons_succ]
                refine wpAnyH_take (i := 3) (v := .pointer (some ⟨w.heap.size, 2, none⟩)) rfl (by kernel_rfl) (by kernel_rfl) (by kernel_rfl) (fun _ _ _ h => h) (Or.inl ⟨by first | rfl | go_simp, fun wx hx => by obtain ⟨x0, x1, x2, x3, x4, x5, x6, x7, x8, x9, x10, x11, x12, x13, x14, x15, x16, x17⟩ := hx; go_simp⟩) hS ?_
                try simp only [Act.put, List.getElem_toArray, List.getElem_cons_zero, List.getElem_cons_succ, List.setIfInBounds_toArray, List.set_cons_zero, List.set_cons_succ]
                refine wpAnyH_take (i := 4) (v := .slice (some ⟨b, off, none⟩) n2 c2) rfl (by kernel_rfl) (by kernel_rfl) (by kernel_rfl) (fun _ _ _ h => h) (Or.inl ⟨by first | rfl | go_simp, fun wx hx => by obtain ⟨x0, x1, x2, x3, x4, x5, x6, x7, x8, x9, x10, x11, x12, x13, x14, x15, x16, x17⟩ := hx; go_simp⟩) hS ?_
                try simp only [Act.put, List.getElem_toArray, List.getElem_cons_zero, List.getElem_cons_succ, List.setIfInBounds_toArray, List.set_cons_zero, List.set_cons_succ]
                refine wpAnyH_take (i := 5) (v := .int .i64 (k : Int)) rfl (by kernel_rfl) (by kernel_rfl) (by kernel_rfl) (fun _ _ _ h => h) (Or.inl ⟨by first | rfl | go_simp, fun wx hx => by obtain ⟨x0, x1, x2, x3, x4, x5, x6, x7, x8, x9, x10, x11, x12, x13, x14, x15, x16, x17⟩ := hx; go_simp⟩) hS ?_
                try simp only [Act.put, List.getElem_toArray, List.getElem_cons_zero, List.getElem_cons_succ, List.setIfInBounds_toArray, List.set_cons_zero, List.set_cons_succ]
                refine wpAnyH_take (i := 6) (v := .int .i64 (km : Int)) rfl (by kernel_rfl) (by kernel_rfl) (by kernel_rfl) (fun _ _ _ h => h) (Or.inl ⟨by first | rfl | go_simp, fun wx hx => by obtain ⟨x0, x1, x2, x3, x4, x5, x6, x7, x8, x9, x10, x11, x12, x13, x14, x15, x16, x17⟩ := hx; go_simp⟩) hS ?_
                try simp only [Act.put, List.getElem_toArray, List.getElem_cons_zero, List.getElem_cons_succ, List.setIfInBounds_toArray, List.set_cons_zero, List.set_cons_succ]
                refine wpAnyH_take (i := 7) (v := .pointer (some ⟨b, off + km * 4, none⟩)) rfl (by kernel_rfl) (by kernel_rfl) (by kernel_rfl) (fun _ _ _ h => h) (Or.inl ⟨by first | rfl | go_simp, fun wx hx => by obtain ⟨x0, x1, x2, x3, x4, x5, x6, x7, x8, x9, x10, x11, x12, x13, x14, x15, x16, x17⟩ := hx; go_simp⟩) hS ?_
                try simp only [Act.put, List.getElem_toArray, List.getElem_cons_zero, List.getElem_cons_succ, List.setIfInBounds_toArray, List.set_cons_zero, List.set_cons_succ]
                refine wpAnyH_take (i := 8) (v := .agg #[.int .i64 ya, .int .i64 yb, .int .i64 yc, .int .i64 yd]) rfl (by kernel_rfl) (by kernel_rfl) (by kernel_rfl) (fun _ _ _ h => h) (Or.inl ⟨by first | rfl | go_simp, fun wx hx => by obtain ⟨x0, x1, x2, x3, x4, x5, x6, x7, x8, x9, x10, x11, x12, x13, x14, x15, x16, x17⟩ := hx; go_simp⟩) hS ?_
                try simp only [Act.put, List.getElem_toArray, List.getElem_cons_zero, List.getElem_cons_succ, List.setIfInBounds_toArray, List.set_cons_zero, List.set_cons_succ]
                refine wpAnyH_take (i := 9) (v := .agg #[.int .i64 xa, .int .i64 xb, .int .i64 xc, .int .i64 xd]) rfl (by kernel_rfl) (by kernel_rfl) (by kernel_rfl) (fun _ _ _ h => h) (Or.inl ⟨by first | rfl | go_simp, fun wx hx => by obtain ⟨x0, x1, x2, x3, x4, x5, x6, x7, x8, x9, x10, x11, x12, x13, x14, x15, x16, x17⟩ := hx; go_simp⟩) hS ?_
                try simp only [Act.put, List.getElem_toArray, List.getElem_cons_zero, List.getElem_cons_succ, List.setIfInBounds_toArray, List.set_cons_zero, List.set_cons_succ]
                refine wpAnyH_ready (rs := [10]) (by kernel_rfl) (by simp) ?_
                refine AllReadyH.cons rfl (fun K hK => ?_) AllReadyH.nil
                rw [if_pos (by first | rfl | go_simp)]
                go_wp2_with (go_at_call 31; refine (CPL.out _ BD.out).mono ?_; rintro e v1 ⟨rfl, hb1⟩; have B1 : Hid (Below W.heap.size W v1) := hideP (below_more BD.out hb1 BD.out.size); clear hb1)
                refine hK.out _ _ (Q.out _ B1.out) (fun hS1 => ?_)
                try simp only [Act.put, List.getElem_toArray, List.getElem_cons_zero, List.getElem_cons_succ, List.setIfInBounds_toArray, List.set_cons_zero, List.set_cons_succ]
                refine wpAnyH_take (i := 11) (v := .bool false) rfl (by kernel_rfl) (by kernel_rfl) (by kernel_rfl) (fun _ _ _ h => h) (Or.inl ⟨by first | rfl | go_simp, fun wx hx => by obtain ⟨x0, x1, x2, x3, x4, x5, x6, x7, x8, x9, x10, x11, x12, x13, x14, x15, x16, x17⟩ := hx; go_simp⟩) hS1 ?_
                try simp only [Act.put, List.getElem_toArray, List.getElem_cons_zero, List.getElem_cons_succ, List.setIfInBounds_toArray, List.set_cons_zero, List.set_cons_succ]
                refine wpAnyH_take (i := 12) (v := .bool false) rfl (by kernel_rfl) (by kernel_rfl) (by kernel_rfl) (fun _ _ _ h => h) (Or.inl ⟨by first | rfl | go_simp, fun wx hx => by obtain ⟨x0, x1, x2, x3, x4, x5, x6, x7, x8, x9, x10, x11, x12, x13, x14, x15, x16, x17⟩ := hx; go_simp⟩) hS1 ?_
                try simp only [Act.put, List.getElem_toArray, List.getElem_cons_zero, List.getElem_cons_succ, List.setIfInBounds_toArray, List.set_cons_zero, List.set_cons_succ]
                refine wpAnyH_take (i := 13) (v := .bool false) rfl (by kernel_rfl) (by kernel_rfl) (by kernel_rfl) (fun _ _ _ h => h) (Or.inl ⟨by first | rfl | go_simp, fun wx hx => by obtain ⟨x0, x1, x2, x3, x4, x5, x6, x7, x8, x9, x10, x11, x12, x13, x14, x15, x16, x17⟩ := hx; go_simp⟩) hS1 ?_
                try simp only [Act.put, List.getElem_toArray, List.getElem_cons_zero, List.getElem_cons_succ, List.setIfInBounds_toArray, List.set_cons_zero, List.set_cons_succ]
                refine wpAnyH_take (i := 14) (v := .agg #[Value.string s, Value.slice a1 n1 c1, Value.slice (some ⟨b, off, none⟩) n2 c2, Value.int IntKind.i64 g0, Value.int IntKind.i64 g1, Value.int IntKind.i64 0, Value.int IntKind.i64 g3, Value.int IntKind.i64 0, Value.int IntKind.i64 q, Value.int IntKind.i64 r]) rfl (by kernel_rfl) (by kernel_rfl) (by kernel_rfl) (fun _ _ _ h => h) (Or.inl ⟨by first | rfl | go_simp, fun wx hx => by obtain ⟨x0, x1, x2, x3, x4, x5, x6, x7, x8, x9, x10, x11, x12, x13, x14, x15, x16, x17⟩ := hx; go_simp⟩) hS1 ?_
                try simp only [Act.put, List.getElem_toArray, List.getElem_cons_zero, List.getElem_cons_succ, List.setIfInBounds_toArray, List.set_cons_zero, List.set_cons_succ]
                refine wpAnyH_take (i := 15) (v := .pointer (some ⟨wr.heap.size, 0, none⟩)) rfl (by kernel_rfl) (by kernel_rfl) (by kernel_rfl) (fun _ _ _ h => h) (Or.inl ⟨by first | rfl | go_simp, fun wx hx => by obtain ⟨x0, x1, x2, x3, x4, x5, x6, x7, x8, x9, x10, x11, x12, x13, x14, x15, x16, x17⟩ := hx; go_simp⟩) hS1 ?_
                try simp only [Act.put, List.getElem_toArray, List.getElem_cons_zero, List.getElem_cons_succ, List.setIfInBounds_toArray, List.set_cons_zero, List.set_cons_succ]
                refine wpAnyH_take (i := 16) (v := .int .i64 xa) rfl (by kernel_rfl) (by kernel_rfl) (by kernel_rfl) (fun _ _ _ h => h) (Or.inl ⟨by first | rfl | go_simp, fun wx hx => by obtain ⟨x0, x1, x2, x3, x4, x5, x6, x7, x8, x9, x10, x11, x12, x13, x14, x15, x16, x17⟩ := hx; go_simp⟩) hS1 ?_
                try simp only [Act.put, List.getElem_toArray, List.getElem_cons_zero, List.getElem_cons_succ, List.setIfInBounds_toArray, List.set_cons_zero, List.set_cons_succ]
                refine wpAnyH_ready (rs := [17]) (by kernel_rfl) (by simp) ?_
                refine AllReadyH.cons rfl (fun K hK => ?_) AllReadyH.nil
                rw [if_pos (by first | rfl | go_simp)]
                go_wp2_with (go_at_call 32; refine (CA.out _ B1.out).mono ?_; rintro e v2 ⟨rfl, hb2⟩; have B2 : Hid (Below W.heap.size W v2) := hideP (below_more B1.out hb2 B1.out.size); clear hb2)
                refine hK.out _ _ (Q.out _ B2.out) (fun hS2 => ?_)
                try simp only [Act.put, List.getElem_toArray, List.getElem_cons_zero, List.getElem_cons_succ, List.setIfInBounds_toArray, List.set_cons_zero, List.set_cons_succ]
                refine wpAnyH_take (i := 18) (v := .bool false) rfl (by kernel_rfl) (by kernel_rfl) (by kernel_rfl) (fun _ _ _ h => h) (Or.inl ⟨by first | rfl | go_simp, fun wx hx => by obtain ⟨x0, x1, x2, x3, x4, x5, x6, x7, x8, x9, x10, x11, x12, x13, x14, x15, x16, x17⟩ := hx; go_simp⟩) hS2 ?_
                try simp only [Act.put, List.getElem_toArray, List.getElem_cons_zero, List.getElem_cons_succ, List.setIfInBounds_toArray, List.set_cons_zero, List.set_cons_succ]
                refine wpAnyH_take (i := 19) (v := .bool false) rfl (by kernel_rfl) (by kernel_rfl) (by kernel_rfl) (fun _ _ _ h => h) (Or.inl ⟨by first | rfl | go_simp, fun wx hx => by obtain ⟨x0, x1, x2, x3, x4, x5, x6, x7, x8, x9, x10, x11, x12, x13, x14, x15, x16, x17⟩ := hx; go_simp⟩) hS2 ?_
                try simp only [Act.put, List.getElem_toArray, List.getElem_cons_zero, List.getElem_cons_succ, List.setIfInBounds_toArray, List.set_cons_zero, List.set_cons_succ]
                refine wpAnyH_take (i := 20) (v := .bool false) rfl (by kernel_rfl) (by kernel_rfl) (by kernel_rfl) (fun _ _ _ h => h) (Or.inl ⟨by first | rfl | go_simp, fun wx hx => by obtain ⟨x0, x1, x2, x3, x4, x5, x6, x7, x8, x9, x10, x11, x12, x13, x14, x15, x16, x17⟩ := hx; go_simp⟩) hS2 ?_
                try simp only [Act.put, List.getElem_toArray, List.getElem_cons_zero, List.getElem_cons_succ, List.setIfInBounds_toArray, List.set_cons_zero, List.set_cons_succ]
                refine wpAnyH_take (i := 21) (v := .agg #[Value.string s, Value.slice a1 n1 c1, Value.slice (some ⟨b, off, none⟩) n2 c2, Value.int IntKind.i64 g0, Value.int IntKind.i64 g1, Value.int IntKind.i64 0, Value.int IntKind.i64 g3, Value.int IntKind.i64 0, Value.int IntKind.i64 q, Value.int IntKind.i64 r]) rfl (by kernel_rfl) (by kernel_rfl) (by kernel_rfl) (fun _ _ _ h => h) (Or.inl ⟨by first | rfl | go_simp, fun wx hx => by obtain ⟨x0, x1, x2, x3, x4, x5, x6, x7, x8, x9, x10, x11, x12, x13, x14, x15, x16, x17⟩ := hx; go_simp⟩) hS2 ?_
                try simp only [Act.put, List.getElem_toArray, List.getElem_cons_zero, List.getElem_cons_succ, List.setIfInBounds_toArray, List.set_cons_zero, List.set_cons_succ]
                refine wpAnyH_take (i := 22) (v := .pointer (some ⟨wr.heap.size, 1, none⟩)) rfl (by kernel_rfl) (by kernel_rfl) (by kernel_rfl) (fun _ _ _ h => h) (Or.inl ⟨by first | rfl | go_simp, fun wx hx => by obtain ⟨x0, x1, x2, x3, x4, x5, x6, x7, x8, x9, x10, x11, x12, x13, x14, x15, x16, x17⟩ := hx; go_simp⟩) hS2 ?_
                try simp only [Act.put, List.getElem_toArray, List.getElem_cons_zero, List.getElem_cons_succ, List.setIfInBounds_toArray, List.set_cons_zero, List.set_cons_succ]
                refine wpAnyH_take (i := 23) (v := .int .i64 xb) rfl (by kernel_rfl) (by kernel_rfl) (by kernel_rfl) (fun _ _ _ h => h) (Or.inl ⟨by first | rfl | go_simp, fun wx hx => by obtain ⟨x0, x1, x2, x3, x4, x5, x6, x7, x8, x9, x10, x11, x12, x13, x14, x15, x16, x17⟩ := hx; go_simp⟩) hS2 ?_
                try simp only [Act.put, List.getElem_toArray, List.getElem_cons_zero, List.getElem_cons_succ, List.setIfInBounds_toArray, List.set_cons_zero, List.set_cons_succ]
                refine wpAnyH_ready (rs := [24]) (by kernel_rfl) (by simp) ?_
                refine AllReadyH.cons rfl (fun K hK => ?_) AllReadyH.nil
                rw [if_pos (by first | rfl | go_simp)]
                go_wp2_with (go_at_call 32; refine (CB.out _ B2.out).mono ?_; rintro e v3 ⟨rfl, hb3⟩; have B3 : Hid (Below W.heap.size W v3) := hideP (below_more B2.out hb3 B2.out.size); clear hb3)
                refine hK.out _ _ (Q.out _ B3.out) (fun hS3 => ?_)
                try simp only [Act.put, List.getElem_toArray, List.getElem_cons_zero, List.getElem_cons_succ, List.setIfInBounds_toArray, List.set_cons_zero, List.set_cons_succ]
                refine wpAnyH_take (i := 25) (v := .bool false) rfl (by kernel_rfl) (by kernel_rfl) (by kernel_rfl) (fun _ _ _ h => h) (Or.inl ⟨by first | rfl | go_simp, fun wx hx => by obtain ⟨x0, x1, x2, x3, x4, x5, x6, x7, x8, x9, x10, x11, x12, x13, x14, x15, x16, x17⟩ := hx; go_simp⟩) hS3 ?_
                try simp only [Act.put, List.getElem_toArray, List.getElem_cons_zero, List.getElem_cons_succ, List.setIfInBounds_toArray, List.set_cons_zero, List.set_cons_succ]
                refine wpAnyH_take (i := 26) (v := .bool false) rfl (by kernel_rfl) (by kernel_rfl) (by kernel_rfl) (fun _ _ _ h => h) (Or.inl ⟨by first | rfl | go_simp, fun wx hx => by obtain ⟨x0, x1, x2, x3, x4, x5, x6, x7, x8, x9, x10, x11, x12, x13, x14, x15, x16, x17⟩ := hx; go_simp⟩) hS3 ?_
                try simp only [Act.put, List.getElem_toArray, List.getElem_cons_zero, List.getElem_cons_succ, List.setIfInBounds_toArray, List.set_cons_zero, List.set_cons_succ]
                refine wpAnyH_done (by kernel_rfl) ?_ _
                clear hS hS1 hS2 hS3 hK
                have HC := hideP (HBB.out _ B3.out)
                have hzz : wr.heap.size < v3.heap.size := Nat.lt_of_lt_of_le hWs B3.out.size
                obtain ⟨x0, x1, x2, x3, x4, x5, x6, x7, x8, x9, x10, x11, x12, x13, _⟩ := Q.out _ B3.out
                by_cases hl : xc = -1
                · subst hl
                  by_cases h7 : -6553600 ≤ xd
                  rotate_left
                  · have h7' : decide (xd < -6553600) = true := by simp; omega
                    have HE : Hid (R = false) := hideP (HBAD.out (by rw [HP.out]; simp; omega))
                    clear h7
                    go_wp2
                    go_ret
                    exact ⟨retB HE.out.symm, HC.out.2⟩
                  have h7' : decide (xd < -6553600) = false := by simp; omega
                  by_cases h8 : xd ≤ 6553600
                  rotate_left
                  · have h8' : decide (6553600 < xd) = true := by simp; omega
                    have HE : Hid (R = false) := hideP (HBAD.out (by rw [HP.out]; simp; omega))
                    clear h7 h8
                    go_wp2
                    go_ret
                    exact ⟨retB HE.out.symm, HC.out.2⟩
                  have h8' : decide (6553600 < xd) = false := by simp; omega
                  have HOK : Hid (pairB gs ⟨xa, xb, -1, xd⟩ = true) := hideP (by rw [HP.out]; simp; omega)
                  clear h7 h8
                  go_wp2
                  go_roundw
                  case rel =>
                    refine ⟨k + 1, by omega, by go_num, hideP (fun j hj => ?_), hideP (fun j hj => ?_), HC⟩
                    · by_cases hjk : j = k
                      · subst hjk; rw [← HXX.out]; exact HOK.out
                      · exact HJ.out j (by omega)
                    · by_cases hjk : j = km
                      · subst hjk; exact HLT.out
                      · exact HA.out j (by have := HKM.out; omega)
                  case measure => simp [intOf]; omega
                · have l1 : (xc == -1) = false := by simp [hl]
                  have l2 : decide (xc = -1) = false := by simp [hl]
                  by_cases h7 : xd = 0
                  rotate_left
                  · have h7a : (xd != 0) = true := by simp [h7]
                    have h7b : decide (xd = 0) = false := by simp [h7]
                    have h7c : (xd == 0) = false := by simp [h7]
                    have HE : Hid (R = false) := hideP (HBAD.out (by rw [HP.out]; simp [hl, h7]))
                    clear h7
                    go_wp2
                    go_ret
                    exact ⟨retB HE.out.symm, HC.out.2⟩
                  subst h7
                  go_wp2_with fail
                  refine (CC.out _ B3.out).mono ?_
                  rintro e v9 ⟨rfl, hb9⟩
                  have B9 : Hid (Below W.heap.size W v9) := hideP (below_more B3.out hb9 B3.out.size)
                  have HC9 := hideP (HBB.out _ B9.out)
                  clear hb9
                  cases hcb : hc
                  · have z1 : decide (zc < 0) = true := by rw [hzc, hcb]; rfl
                    have HE : Hid (R = false) := hideP (HBAD.out (by rw [HP.out, hcb]; simp [hl]))
                    clear hzc hcb
                    go_wp2
                    go_ret
                    exact ⟨retB HE.out.symm, HC9.out.2⟩
                  · have z1 : decide (zc < 0) = false := by rw [hzc, hcb]; rfl
                    have HOK : Hid (pairB gs ⟨xa, xb, xc, 0⟩ = true) := hideP (by rw [HP.out, hcb]; simp [hl])
                    clear hzc hcb
                    go_wp2
                    go_roundw
                    case rel =>
                      refine ⟨k + 1, by omega, by go_num, hideP (fun j hj => ?_), hideP (fun j hj => ?_), HC9⟩
                      · by_cases hjk : j = k
                        · subst hjk; rw [← HXX.out]; exact HOK.out
                        · exact HJ.out j (by omega)
                      · by_cases hjk : j = km
                        · subst hjk; exact HLT.out
                        · exact HA.out j (by have := HKM.out; omega)
                    case measure => simp [intOf]; omega
        · have hki : ¬ (k : Int) < (n2 : Int) := by omega
          have HE : Hid (R = true) := hideP (by
            have hal : AllP gs ps := fun j hj => HJ.out j (by have := HN.out.2; omega)
            have has : AscP ps := fun j hj => HA.out j (by have := HN.out.2; omega)
            rw [HR4.out, HPB.out, ps_asc hal]; exact decide_eq_true has)
          go_wp2
          go_ret
          exact ⟨retB HE.out.symm, HQ.out.2⟩
end Go.Proofs.Ytggcfgbpameppaa
