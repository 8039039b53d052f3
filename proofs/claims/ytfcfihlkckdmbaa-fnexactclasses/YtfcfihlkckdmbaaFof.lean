/-
  The tree of a formula: the program.
-/
import Derived.Test.YtfcfihlkckdmbaaCan
import Derived.Test.YtfcfihlkckdmbaaSok
namespace Go.Proofs.Ytfcfihlkckdmbaa
open Go.RowKit
set_option linter.unusedVariables false
set_option linter.unusedSimpArgs false

def sliceLen : Value → Nat
  | .slice _ n _ => n
  | _ => 0

theorem Try.info49 : (Try.prog.info? 49).map (fun i => (i.zero, i.size, i.bytes)) = some (some (.pointer none), 1, 8) := by kernel_rfl

theorem HRow.mono {lo lo' : Nat} {w : World} {v : Value} {hs : List Hd} (H : HRow lo w v hs) (hl : lo' ≤ lo) : HRow lo' w v hs := by
  obtain ⟨ps, ⟨hm, ho⟩, hp, hc⟩ := H
  refine ⟨ps, ⟨hm, ?_⟩, hp, fun i hi => ⟨Nat.le_trans hl (hc i hi).1, (hc i hi).2⟩⟩
  rcases ho with ho | ⟨g, cap, cur, hv, hg, hr⟩
  · exact .inl ho
  · exact .inr ⟨g, cap, cur, hv, Nat.le_trans hl hg, hr⟩
theorem ix0 (a b c : Value) (w : World) : (Instr.index 57 (.agg #[a, b, c]) (.int .i64 0)).run Try.prog w = .ok a w := rfl
theorem ix1 (a b c : Value) (w : World) : (Instr.index 57 (.agg #[a, b, c]) (.int .i64 1)).run Try.prog w = .ok b w := rfl
theorem ix2 (a b c : Value) (w : World) : (Instr.index 57 (.agg #[a, b, c]) (.int .i64 2)).run Try.prog w = .ok c w := rfl

set_option maxRecDepth 20000 in
set_option maxHeartbeats 16000000 in
theorem formulaOf_any : ∀ (m : Nat) (ao : Option Addr) (n cap : Nat) (xs : List At) (w : World) (deep : Nat), n < m → n ≤ cap → cap ≤ 1000000000 → ARow 0 w (.slice ao n cap) xs → n ≤ 2000 → deep ≤ 41 →
    Calls Try.prog 30 #[.slice ao n cap, .int .i64 deep] w fun e w' => (∃ a l c, e = .returned (.tuple #[.slice a l c, .bool (ok xs deep)]) ∧ (ok xs deep = true → HRow w.heap.size w' (.slice a l c) (hds xs)) ∧ (ok xs deep = false → l = 0)) ∧ Below w.heap.size w w' := by
  intro m
  induction m with
  | zero =>
    intro ao n cap xs w deep hm
    omega
  | succ m ih =>
    intro ao n cap xs w deep hm hcap hcap2 h hn hde
    have HA := hideP h
    have hl : xs.length = n := by obtain ⟨ao', n', c', he, hl, _⟩ := h; simp only [Value.slice.injEq] at he; rw [hl, ← he.2.1]
    have HL := hideP hl
    have HIH := hideP ih
    obtain ⟨R, hR⟩ : ∃ R, R = ok xs deep := ⟨_, rfl⟩
    rw [← hR]
    have HR := hideP hR
    obtain ⟨PP, hPP⟩ : ∃ PP : Ending → World → Prop, PP = fun e w' => (∃ a l c, e = .returned (.tuple #[.slice a l c, .bool R]) ∧ (R = true → HRow w.heap.size w' (.slice a l c) (hds xs)) ∧ (R = false → l = 0)) ∧ Below w.heap.size w w' := ⟨_, rfl⟩
    rw [← hPP]
    have HPP := hideP hPP
    clear ih h hl hR hPP
    go_enter Try.func30, Try.ntmps30
    go_wp2
    go_loopw [0, 6] (fun av row wr => ∃ (ao' : Option Addr) (n' cap' : Nat) (ys : List At) (done : List Hd) (g c : Nat), av = .slice ao' n' cap' ∧ n' ≤ n ∧ n' ≤ cap' ∧ cap' ≤ 1000000000 ∧ Hid (ARow 0 w (.slice ao' n' cap') ys) ∧ Hid (ok ys deep = R) ∧ Hid (done ++ hds ys = hds xs) ∧ Hid (done.length + n' ≤ n) ∧ row = .slice (some ⟨g, 0, none⟩) done.length c ∧ Hid (HRow w.heap.size wr (.slice (some ⟨g, 0, none⟩) done.length c) done ∧ Below w.heap.size w wr)) (fun av _ _ => sliceLen av)
    case atStart =>
      exact ⟨ao, n, cap, xs, [], w.heap.size, 0, rfl, Nat.le_refl _, hcap, hcap2, HA, hideP HR.out.symm, hideP rfl, hideP (by simp), rfl, hideP ⟨⟨[], ⟨rfl, .inr ⟨_, _, _, rfl, Nat.le_refl _, heap_alloc_new w _, by simp, by decide, rfl, rfl⟩⟩, rfl, fun i hi => by simp at hi⟩, below1 _ _⟩⟩
    case round =>
      obtain ⟨ao', n', cap', ys, done, g, c, rfl, hn', hc1, hc2, HY, HO, HD, HDL, rfl, HRW⟩ := hrel
      by_cases hn0 : n' = 0
      · subst hn0
        have HE : Hid (ys = []) := hideP (by obtain ⟨ao2, n2, c2, he, hl, _⟩ := HY.out; simp only [Value.slice.injEq] at he; exact List.eq_nil_of_length_eq_zero (by rw [hl, ← he.2.1]))
        have HRT : Hid (true = R) := hideP (by rw [← HO.out, HE.out, ok_nil])
        go_wp2
        show PP (.returned (.tuple #[.slice (some ⟨g, 0, none⟩) done.length c, .bool true])) _
        rw [HPP.out]
        refine ⟨⟨_, _, _, by rw [← HRT.out], fun _ => ?_, fun h => absurd (HRT.out.trans h) (by decide)⟩, HRW.out.2⟩
        have hd := HD.out
        rw [HE.out, hds_nil, List.append_nil] at hd
        rw [← hd]
        exact HRW.out.1
      · have hii : (0 : Int) < (n' : Int) := by omega
        have hly : ys.length = n' := by obtain ⟨ao2, n2, c2, he, hl, _⟩ := HY.out; simp only [Value.slice.injEq] at he; rw [hl, ← he.2.1]
        obtain ⟨b, off, cap2, hv, hb, _⟩ := ARow.cells HY.out (k := 0) (by omega)
        simp only [Value.slice.injEq] at hv
        obtain ⟨rfl, hv1, hv2⟩ := hv
        have CC : Hid (Calls Try.prog 35 #[.slice (some ⟨b, off, none⟩) n' cap'] wr fun e w' => ((∃ v0 v1 v2 beh, e = .returned (.tuple #[.agg #[v0, v1, v2], beh, .bool true]) ∧ ∃ o0, (o0 = off + 6 ∨ n' = 1) ∧ Cst b o0 (n' - 1) 3 (ys.getD 0 At.none).b (ys.getD 0 At.none).u (ys.getD 0 At.none).d beh v0 v1 v2) ∨ ((∃ a0 n0 q0 a1 n1 q1 a2 n2 q2, e = .returned (.tuple #[.agg #[.slice a0 n0 q0, .slice a1 n1 q1, .slice a2 n2 q2], .slice none 0 0, .bool false])) ∧ ¬ (0 ≤ (ys.getD 0 At.none).b ∧ 0 ≤ (ys.getD 0 At.none).u ∧ 0 ≤ (ys.getD 0 At.none).d ∧ (ys.getD 0 At.none).b + (ys.getD 0 At.none).u + (ys.getD 0 At.none).d ≤ (n' - 1 : Nat)))) ∧ Below wr.heap.size wr w') := hideP (cutParts_any (HY.out.below atStable HRW.out.2) (by omega) (by omega) hc1 hc2)
        have HLY := hideP hly
        clear hv1 hv2 hly
        go_wp2_with fail
        refine CC.out.mono ?_
        rintro e w1 ⟨hres, hb1⟩
        have B1 := hideP (And.intro (below_more HRW.out.2 hb1 HRW.out.2.size) hb1)
        clear hb1
        rcases hres with ⟨v0, v1, v2, beh, rfl, o0, ho0, hcst⟩ | ⟨⟨z0, z1, z2, z3, z4, z5, z6, z7, z8, rfl⟩, hnot⟩
        · obtain ⟨zb0, zu0, zd0, hsum, ⟨oa, ca, rfl, hoa, hca, hca9⟩, ⟨ob, cb, rfl, hob, hcb, hcb9⟩, ⟨oc, cc, rfl, hoc, hcc, hcc9⟩, ⟨od, cd, rfl, hod, hcd, hcd9⟩⟩ : 0 ≤ (ys.getD 0 At.none).b ∧ 0 ≤ (ys.getD 0 At.none).u ∧ 0 ≤ (ys.getD 0 At.none).d ∧ (ys.getD 0 At.none).b + (ys.getD 0 At.none).u + (ys.getD 0 At.none).d ≤ ((n' - 1 : Nat) : Int) ∧ Seg b o0 0 (ys.getD 0 At.none).b.toNat v0 ∧ Seg b o0 (ys.getD 0 At.none).b.toNat (ys.getD 0 At.none).u.toNat v1 ∧ Seg b o0 ((ys.getD 0 At.none).b + (ys.getD 0 At.none).u).toNat (ys.getD 0 At.none).d.toNat v2 ∧ Seg b o0 ((ys.getD 0 At.none).b + (ys.getD 0 At.none).u + (ys.getD 0 At.none).d).toNat (n' - 1 - ((ys.getD 0 At.none).b + (ys.getD 0 At.none).u + (ys.getD 0 At.none).d).toNat) beh := by
            rcases hcst with h | h | h | h
            · exact absurd h.1 (by decide)
            · exact absurd h.1 (by decide)
            · exact absurd h.1 (by decide)
            · exact h.2
          obtain ⟨t, ht⟩ : ∃ t, t = ys.getD 0 At.none := ⟨_, rfl⟩
          rw [← ht] at zb0 zu0 zd0 hsum hoa hca hob hcb hoc hcc hod hcd ⊢
          have HT := hideP ht
          clear ht hcst
          obtain ⟨zk, zc, zh, zb, zu, zd⟩ := t
          dsimp only at zb0 zu0 zd0 hsum hoa hca hob hcb hoc hcc hod hcd ⊢
          obtain ⟨B, rfl⟩ : ∃ B : Nat, zb = B := ⟨zb.toNat, by omega⟩
          obtain ⟨U, rfl⟩ : ∃ B : Nat, zu = B := ⟨zu.toNat, by omega⟩
          obtain ⟨D, rfl⟩ : ∃ B : Nat, zd = B := ⟨zd.toNat, by omega⟩
          have eBU : ((B : Int) + (U : Int)).toNat = B + U := by omega
          have eBUD : ((B : Int) + (U : Int) + (D : Int)).toNat = B + U + D := by omega
          simp only [Int.toNat_natCast, eBU, eBUD] at hoa hca hob hcb hoc hcc hod hcd ⊢
          obtain ⟨M, hM⟩ : ∃ M, M = n' - 1 := ⟨_, rfl⟩
          rw [← hM] at hod hcd ⊢
          have hsum2 : B + U + D ≤ M := by omega
          have HSG := hideP (And.intro hoa (And.intro hob (And.intro hoc hod)))
          have HO0 := hideP ho0
          have HM := hideP hM
          clear hoa hob hoc hod ho0 hsum zb0 zu0 zd0 eBU eBUD hM
          by_cases hdd : 40 < deep
          · have hdi : (40 : Int) < (deep : Int) := by omega
            have HE : Hid (false = R) := hideP (by rw [← HO.out, ok_deep hdd]; rw [HLY.out]; simp [hn0])
            go_wp2
            show PP (.returned (.tuple #[.slice none 0 0, .bool false])) _
            rw [HPP.out]
            exact ⟨⟨none, 0, 0, by rw [← HE.out], fun h => absurd (HE.out.trans h) (by decide), fun _ => rfl⟩, below_more B1.out.1 (below1 _ _) B1.out.1.size⟩
          · have hdi : ¬ (40 : Int) < (deep : Int) := by omega
            have HYP : Hid (∀ s q o c' : Nat, s + q ≤ M → (o = o0 + s * 6 ∨ q = 0) → ARow 0 w (.slice (some ⟨b, o, none⟩) q c') (((ys.drop 1).drop s).take q)) := hideP (fun s q o c' hsq ho => by
              by_cases hq0 : q = 0
              · subst hq0
                exact ⟨_, 0, _, rfl, by simp, fun hp => absurd hp (by omega)⟩
              · have hp := ARow.part HY.out (1 + s) q c' (by have := HM.out; omega)
                rw [List.drop_drop]
                rw [show o = off + (1 + s) * 6 by rcases HO0.out with h | h <;> have := HM.out <;> omega]
                exact hp)
            have hys : ys = ⟨zk, zc, zh, B, U, D⟩ :: ys.drop 1 := by
              rw [HT.out, ← drop_at (by rw [HLY.out]; omega), List.drop_zero]
            have hMm : M < m := by have := HM.out; omega
            have hM2 : M ≤ 2000 := by have := HM.out; omega
            have hlr : (ys.drop 1).length = M := by rw [List.length_drop, HLY.out, HM.out]
            obtain ⟨p0, hp0⟩ : ∃ p, p = ok ((ys.drop 1).take B) (deep + 1) := ⟨_, rfl⟩
            obtain ⟨p1, hp1⟩ : ∃ p, p = ok (((ys.drop 1).drop B).take U) (deep + 1) := ⟨_, rfl⟩
            obtain ⟨p2, hp2⟩ : ∃ p, p = ok (((ys.drop 1).drop (B + U)).take D) (deep + 1) := ⟨_, rfl⟩
            have HOK : Hid (R = (atomB ⟨zk, zc, zh, B, U, D⟩ && p0 && p1 && p2 && (!decide (zk = 3) || twoB ((ys.drop 1).take B)) && ok (ys.drop (1 + (B + U + D))) deep)) := hideP (by
              have h := HO.out
              rw [hys, ok_cons] at h
              rw [← h, hp0, hp1, hp2]
              have e2 : ((B : Int) + (U : Int)).toNat = B + U := by omega
              have e3 : ((B : Int) + (U : Int) + (D : Int)).toNat = B + U + D := by omega
              have hle : (B : Int) + (U : Int) + (D : Int) ≤ ((ys.drop 1).length : Int) := by rw [hlr]; omega
              have hdp : deep ≤ 40 := by omega
              simp only [At.kids, Int.toNat_natCast, e2, e3, hle, hdp, decide_true, Bool.true_and, Bool.and_true, List.drop_drop])
            have CI : Hid (∀ (s q o c' : Nat), s + q ≤ M → (o = o0 + s * 6 ∨ q = 0) → q ≤ c' → c' ≤ 1000000000 → ∀ W, Below w.heap.size w W → Calls Try.prog 30 #[.slice (some ⟨b, o, none⟩) q c', .int .i64 ((deep : Int) + 1)] W fun e w' => (∃ a l c, e = .returned (.tuple #[.slice a l c, .bool (ok (((ys.drop 1).drop s).take q) (deep + 1))]) ∧ (ok (((ys.drop 1).drop s).take q) (deep + 1) = true → HRow W.heap.size w' (.slice a l c) (hds (((ys.drop 1).drop s).take q)))) ∧ Below W.heap.size W w') := hideP (fun s q o c' h1 h2 h3 h4 W hW => by
              have := HIH.out (some ⟨b, o, none⟩) q c' _ W (deep + 1) (by omega) h3 h4 ((HYP.out s q o c' h1 h2).below atStable hW) (by omega) (by omega)
              rw [show ((deep + 1 : Nat) : Int) = (deep : Int) + 1 by omega] at this
              exact this.mono (fun e w' hh => by obtain ⟨⟨a, l, c, he, h1, _⟩, hb⟩ := hh; exact ⟨⟨a, l, c, he, h1⟩, hb⟩))
            have C0 : Hid (∀ W, Below w.heap.size w W → Calls Try.prog 30 #[.slice (some ⟨b, oa, none⟩) B ca, .int .i64 ((deep : Int) + 1)] W fun e w' => (∃ a l c, e = .returned (.tuple #[.slice a l c, .bool p0]) ∧ (p0 = true → HRow W.heap.size w' (.slice a l c) (hds ((ys.drop 1).take B)))) ∧ Below W.heap.size W w') := hideP (fun W hW => by rw [hp0]; exact CI.out 0 B oa ca (by omega) HSG.out.1 hca hca9 W hW)
            have C1 : Hid (∀ W, Below w.heap.size w W → Calls Try.prog 30 #[.slice (some ⟨b, ob, none⟩) U cb, .int .i64 ((deep : Int) + 1)] W fun e w' => (∃ a l c, e = .returned (.tuple #[.slice a l c, .bool p1]) ∧ (p1 = true → HRow W.heap.size w' (.slice a l c) (hds (((ys.drop 1).drop B).take U)))) ∧ Below W.heap.size W w') := hideP (fun W hW => by rw [hp1]; exact CI.out B U ob cb (by omega) HSG.out.2.1 hcb hcb9 W hW)
            have C2 : Hid (∀ W, Below w.heap.size w W → Calls Try.prog 30 #[.slice (some ⟨b, oc, none⟩) D cc, .int .i64 ((deep : Int) + 1)] W fun e w' => (∃ a l c, e = .returned (.tuple #[.slice a l c, .bool p2]) ∧ (p2 = true → HRow W.heap.size w' (.slice a l c) (hds (((ys.drop 1).drop (B + U)).take D)))) ∧ Below W.heap.size W w') := hideP (fun W hW => by rw [hp2]; exact CI.out (B + U) D oc cc (by omega) HSG.out.2.2.1 hcc hcc9 W hW)
            have HP0 := hideP hp0
            have HP1 := hideP hp1
            have HP2 := hideP hp2
            have HYS := hideP hys
            have HLR := hideP hlr
            clear hp0 hp1 hp2 hys hlr
            go_wp2
            obtain ⟨Tb, hTb⟩ : ∃ Tb, Tb = w1.heap.size + 1 := ⟨_, rfl⟩
            rw [show ({ block := w1.heap.size + 1, off := 0 } : Addr) = ⟨Tb, 0, none⟩ by rw [hTb]]
            have HTB := hideP hTb
            clear hTb
            go_loopw [9, 31] (fun okv iv wr => ∃ (k : Nat) (kI : Int) (a0 a1 a2 : Option Addr) (m0 m1 m2 e0 e1 e2 : Nat), okv = .bool true ∧ k ≤ 3 ∧ kI = (k : Int) ∧ iv = .int .i64 kI ∧ Hid (wr.heap[Tb]? = some (.cells #[.slice a0 m0 e0, .slice a1 m1 e1, .slice a2 m2 e2] 60 (0, 0)) ∧ Below w1.heap.size w1 wr ∧ Tb < wr.heap.size) ∧ Hid ((1 ≤ k → p0 = true ∧ HRow (Tb + 1) wr (.slice a0 m0 e0) (hds ((ys.drop 1).take B))) ∧ (2 ≤ k → p1 = true ∧ HRow (Tb + 1) wr (.slice a1 m1 e1) (hds (((ys.drop 1).drop B).take U))) ∧ (3 ≤ k → p2 = true ∧ HRow (Tb + 1) wr (.slice a2 m2 e2) (hds (((ys.drop 1).drop (B + U)).take D))))) (fun _ iv _ => 3 - (intOf iv).toNat)
            case atStart =>
              refine ⟨0, 0, none, none, none, 0, 0, 0, 0, 0, 0, rfl, by omega, rfl, rfl, hideP ⟨?_, below2 _ _ _, by rw [HTB.out]; simp⟩, hideP ⟨fun h => by omega, fun h => by omega, fun h => by omega⟩⟩
              rw [HTB.out]
              have := heap_alloc_new (w1.alloc (.cells #[.slice (some ⟨b, oa, none⟩) B ca, .slice (some ⟨b, ob, none⟩) U cb, .slice (some ⟨b, oc, none⟩) D cc] 57)) (.cells #[.slice none 0 0, .slice none 0 0, .slice none 0 0] 60)
              rw [World.size_alloc] at this
              exact this
            case round =>
              obtain ⟨k, kI, a0, a1, a2, m0, m1, m2, e0, e1, e2, rfl, hk, hkI, rfl, HH, HF⟩ := hrel
              have f0 : ∀ j, wr.frozen? ⟨Tb, j, none⟩ = false := fun j => frozen_of_row wr _ j _ 60 HH.out.1
              have t0 : wr.cell? ⟨Tb, 0, none⟩ = some (.slice a0 m0 e0) := by rw [cell_of_row wr _ _ _ 60 _ HH.out.1]; rfl
              have t1 : wr.cell? ⟨Tb, 1, none⟩ = some (.slice a1 m1 e1) := by rw [cell_of_row wr _ _ _ 60 _ HH.out.1]; rfl
              have t2 : wr.cell? ⟨Tb, 2, none⟩ = some (.slice a2 m2 e2) := by rw [cell_of_row wr _ _ _ 60 _ HH.out.1]; rfl
              have BW : Hid (Below w.heap.size w wr) := hideP (below_more B1.out.1 HH.out.2.1 B1.out.1.size)
              rcases (show k = 0 ∨ k = 1 ∨ k = 2 ∨ k = 3 by omega) with rfl | rfl | rfl | rfl
              · as_aux_lemma =>
                  obtain rfl : kI = 0 := by omega
                  clear hkI hk
                  have hix := fun W => ix0 (.slice (some ⟨b, oa, none⟩) B ca) (.slice (some ⟨b, ob, none⟩) U cb) (.slice (some ⟨b, oc, none⟩) D cc) W
                  go_wp2_with fail
                  refine (C0.out _ BW.out).mono ?_
                  rintro e w3 ⟨⟨a, l, c3, rfl, h3⟩, hb3⟩
                  have H3 := hideP h3
                  have B3 := hideP (And.intro hb3 (And.intro (below_more BW.out hb3 BW.out.size) (below_more HH.out.2.1 hb3 HH.out.2.1.size)))
                  have HH3 := hideP ((hb3.block Tb HH.out.2.2).trans HH.out.1)
                  have hT3 : Tb < w3.heap.size := Nat.lt_of_lt_of_le HH.out.2.2 hb3.size
                  have f3 : ∀ j, w3.frozen? ⟨Tb, j, none⟩ = false := fun j => frozen_of_row w3 _ j _ 60 HH3.out
                  have s0 : w3.cell? ⟨Tb, 0, none⟩ = some (.slice a0 m0 e0) := by rw [cell_of_row w3 _ _ _ 60 _ HH3.out]; rfl
                  have s1 : w3.cell? ⟨Tb, 1, none⟩ = some (.slice a1 m1 e1) := by rw [cell_of_row w3 _ _ _ 60 _ HH3.out]; rfl
                  have s2 : w3.cell? ⟨Tb, 2, none⟩ = some (.slice a2 m2 e2) := by rw [cell_of_row w3 _ _ _ 60 _ HH3.out]; rfl
                  clear h3 hb3 f0 t0 t1 t2
                  cases p0
                  · have HE : Hid (false = R) := hideP (by rw [HOK.out]; simp)
                    go_wp2
                    show PP (.returned (.tuple #[.slice none 0 0, .bool false])) _
                    rw [HPP.out]
                    refine ⟨⟨none, 0, 0, by rw [← HE.out], fun h => absurd (HE.out.trans h) (by decide), fun _ => rfl⟩, B3.out.2.1.setCell (by have := B1.out.1.size; have := HTB.out; simp; omega) _⟩
                  · go_wp2
                    go_roundw
                    case rel => exact ⟨1, 1, a, a1, a2, l, m1, m2, c3, e1, e2, rfl, by omega, rfl, rfl, hideP ⟨heap_setCell_same _ _ _ _ _ _ HH3.out, B3.out.2.2.setCell (by have := HTB.out; simp; omega) _, by simpa using hT3⟩, hideP ⟨fun h => ⟨by trivial, ((H3.out (by trivial)).mono (by have := HH.out.2.2; omega)).abv (Abv.set (Nat.lt_succ_self _) _)⟩, fun h => by omega, fun h => by omega⟩⟩
                    case measure => simp [intOf]
              · as_aux_lemma =>
                  obtain rfl : kI = 1 := by omega
                  clear hkI hk
                  have hix := fun W => ix1 (.slice (some ⟨b, oa, none⟩) B ca) (.slice (some ⟨b, ob, none⟩) U cb) (.slice (some ⟨b, oc, none⟩) D cc) W
                  go_wp2_with fail
                  refine (C1.out _ BW.out).mono ?_
                  rintro e w3 ⟨⟨a, l, c3, rfl, h3⟩, hb3⟩
                  have H3 := hideP h3
                  have B3 := hideP (And.intro hb3 (And.intro (below_more BW.out hb3 BW.out.size) (below_more HH.out.2.1 hb3 HH.out.2.1.size)))
                  have HH3 := hideP ((hb3.block Tb HH.out.2.2).trans HH.out.1)
                  have hT3 : Tb < w3.heap.size := Nat.lt_of_lt_of_le HH.out.2.2 hb3.size
                  have f3 : ∀ j, w3.frozen? ⟨Tb, j, none⟩ = false := fun j => frozen_of_row w3 _ j _ 60 HH3.out
                  have s0 : w3.cell? ⟨Tb, 0, none⟩ = some (.slice a0 m0 e0) := by rw [cell_of_row w3 _ _ _ 60 _ HH3.out]; rfl
                  have s1 : w3.cell? ⟨Tb, 1, none⟩ = some (.slice a1 m1 e1) := by rw [cell_of_row w3 _ _ _ 60 _ HH3.out]; rfl
                  have s2 : w3.cell? ⟨Tb, 2, none⟩ = some (.slice a2 m2 e2) := by rw [cell_of_row w3 _ _ _ 60 _ HH3.out]; rfl
                  clear h3 hb3 f0 t0 t1 t2
                  cases p1
                  · have HE : Hid (false = R) := hideP (by rw [HOK.out]; simp)
                    go_wp2
                    show PP (.returned (.tuple #[.slice none 0 0, .bool false])) _
                    rw [HPP.out]
                    refine ⟨⟨none, 0, 0, by rw [← HE.out], fun h => absurd (HE.out.trans h) (by decide), fun _ => rfl⟩, B3.out.2.1.setCell (by have := B1.out.1.size; have := HTB.out; simp; omega) _⟩
                  · go_wp2
                    go_roundw
                    case rel => exact ⟨2, 2, a0, a, a2, m0, l, m2, e0, c3, e2, rfl, by omega, rfl, rfl, hideP ⟨heap_setCell_same _ _ _ _ _ _ HH3.out, B3.out.2.2.setCell (by have := HTB.out; simp; omega) _, by simpa using hT3⟩, hideP ⟨fun h => ⟨(HF.out.1 (by omega)).1, ((HF.out.1 (by omega)).2.abv (Abv.below B3.out.1)).abv (Abv.set (Nat.lt_succ_self _) _)⟩, fun h => ⟨by trivial, ((H3.out (by trivial)).mono (by have := HH.out.2.2; omega)).abv (Abv.set (Nat.lt_succ_self _) _)⟩, fun h => by omega⟩⟩
                    case measure => simp [intOf]
              · as_aux_lemma =>
                  obtain rfl : kI = 2 := by omega
                  clear hkI hk
                  have hix := fun W => ix2 (.slice (some ⟨b, oa, none⟩) B ca) (.slice (some ⟨b, ob, none⟩) U cb) (.slice (some ⟨b, oc, none⟩) D cc) W
                  go_wp2_with fail
                  refine (C2.out _ BW.out).mono ?_
                  rintro e w3 ⟨⟨a, l, c3, rfl, h3⟩, hb3⟩
                  have H3 := hideP h3
                  have B3 := hideP (And.intro hb3 (And.intro (below_more BW.out hb3 BW.out.size) (below_more HH.out.2.1 hb3 HH.out.2.1.size)))
                  have HH3 := hideP ((hb3.block Tb HH.out.2.2).trans HH.out.1)
                  have hT3 : Tb < w3.heap.size := Nat.lt_of_lt_of_le HH.out.2.2 hb3.size
                  have f3 : ∀ j, w3.frozen? ⟨Tb, j, none⟩ = false := fun j => frozen_of_row w3 _ j _ 60 HH3.out
                  have s0 : w3.cell? ⟨Tb, 0, none⟩ = some (.slice a0 m0 e0) := by rw [cell_of_row w3 _ _ _ 60 _ HH3.out]; rfl
                  have s1 : w3.cell? ⟨Tb, 1, none⟩ = some (.slice a1 m1 e1) := by rw [cell_of_row w3 _ _ _ 60 _ HH3.out]; rfl
                  have s2 : w3.cell? ⟨Tb, 2, none⟩ = some (.slice a2 m2 e2) := by rw [cell_of_row w3 _ _ _ 60 _ HH3.out]; rfl
                  clear h3 hb3 f0 t0 t1 t2
                  cases p2
                  · have HE : Hid (false = R) := hideP (by rw [HOK.out]; simp)
                    go_wp2
                    show PP (.returned (.tuple #[.slice none 0 0, .bool false])) _
                    rw [HPP.out]
                    refine ⟨⟨none, 0, 0, by rw [← HE.out], fun h => absurd (HE.out.trans h) (by decide), fun _ => rfl⟩, B3.out.2.1.setCell (by have := B1.out.1.size; have := HTB.out; simp; omega) _⟩
                  · go_wp2
                    go_roundw
                    case rel => exact ⟨3, 3, a0, a1, a, m0, m1, l, e0, e1, c3, rfl, by omega, rfl, rfl, hideP ⟨heap_setCell_same _ _ _ _ _ _ HH3.out, B3.out.2.2.setCell (by have := HTB.out; simp; omega) _, by simpa using hT3⟩, hideP ⟨fun h => ⟨(HF.out.1 (by omega)).1, ((HF.out.1 (by omega)).2.abv (Abv.below B3.out.1)).abv (Abv.set (Nat.lt_succ_self _) _)⟩, fun h => ⟨(HF.out.2.1 (by omega)).1, ((HF.out.2.1 (by omega)).2.abv (Abv.below B3.out.1)).abv (Abv.set (Nat.lt_succ_self _) _)⟩, fun h => ⟨by trivial, ((H3.out (by trivial)).mono (by have := HH.out.2.2; omega)).abv (Abv.set (Nat.lt_succ_self _) _)⟩⟩⟩
                    case measure => simp [intOf]
              · obtain rfl : kI = 3 := by omega
                clear hkI hk
                have hl0 : m0 = (hds ((ys.drop 1).take B)).length := by
                  obtain ⟨a, c, h⟩ := (HF.out.1 (by omega)).2.slice
                  simp only [Value.slice.injEq] at h
                  exact h.2.1
                have hl1 : m1 = (hds (((ys.drop 1).drop B).take U)).length := by
                  obtain ⟨a, c, h⟩ := (HF.out.2.1 (by omega)).2.slice
                  simp only [Value.slice.injEq] at h
                  exact h.2.1
                have hl2 : m2 = (hds (((ys.drop 1).drop (B + U)).take D)).length := by
                  obtain ⟨a, c, h⟩ := (HF.out.2.2 (by omega)).2.slice
                  simp only [Value.slice.injEq] at h
                  exact h.2.1
                have HL0 := hideP hl0
                have HL1 := hideP hl1
                have HL2 := hideP hl2
                clear hl0 hl1 hl2
                obtain ⟨b', off', cap3, hv, hb', c0, c1, c2, c3, c4, c5⟩ := ARow.cells HY.out (k := 0) (by rw [HLY.out]; omega)
                simp only [Value.slice.injEq, Option.some.injEq, Addr.mk.injEq, and_true] at hv
                obtain ⟨⟨rfl, rfl⟩, hv1, hv2⟩ := hv
                rw [← HT.out] at c0 c1 c2 c3 c4 c5
                simp only [Nat.zero_mul, Nat.add_zero] at c0 c1 c2 c3 c4 c5
                have CL : Hid (∀ x, Below w.heap.size w x → x.cell? ⟨b, off, none⟩ = some (.int .i64 zk) ∧ x.cell? ⟨b, off + 1, none⟩ = some (.int .i64 zc) ∧ x.cell? ⟨b, off + 2, none⟩ = some (.int .i64 zh)) := hideP (fun x hx => ⟨(hx.cell (p := ⟨b, off, none⟩) hb).trans c0, (hx.cell (p := ⟨b, off + 1, none⟩) hb).trans c1, (hx.cell (p := ⟨b, off + 2, none⟩) hb).trans c2⟩)
                obtain ⟨g0, g1, g2⟩ := CL.out _ BW.out
                clear c0 c1 c2 c3 c4 c5 hv1 hv2
                go_wp2
                go_region
                obtain ⟨w4, hw4⟩ : ∃ w4, w4 = (wr.alloc (.cells #[.int .i64 zk, .int .i64 zc, .int .i64 zh, .slice a0 m0 e0, .slice a1 m1 e1, .slice a2 m2 e2] 56)).drew := ⟨_, rfl⟩
                rw [← hw4]
                obtain ⟨X, hX⟩ : ∃ X, X = wr.heap.size := ⟨_, rfl⟩
                rw [show ({ block := wr.heap.size, off := 0 } : Addr) = ⟨X, 0, none⟩ by rw [hX]]
                have hblk : w4.heap[X]? = some (.cells #[.int .i64 zk, .int .i64 zc, .int .i64 zh, .slice a0 m0 e0, .slice a1 m1 e1, .slice a2 m2 e2] 56 (0, 0)) := by rw [hw4, hX]; exact heap_alloc_new wr _
                have hb4 : Below wr.heap.size wr w4 := by rw [hw4]; exact (below1 _ _).drew
                have hhd : hd ⟨zk, zc, zh, B, U, D⟩ (ys.drop 1) = ⟨zk, zc, zh, m0, m1, m2⟩ := by
                  have e2 : ((B : Int) + (U : Int)).toNat = B + U := by omega
                  unfold hd
                  simp only [Int.toNat_natCast, e2]
                  rw [HL0.out, HL1.out, HL2.out, hds_len _ _ (Nat.le_refl _), hds_len _ _ (Nat.le_refl _), hds_len _ _ (Nat.le_refl _)]
                have hm0 : m0 ≤ 2000 := by
                  have := tops_le _ ((ys.drop 1).take B) (Nat.le_refl _)
                  rw [HL0.out, hds_len _ _ (Nat.le_refl _)]
                  rw [List.length_take, HLR.out] at this
                  omega
                have hm1 : m1 ≤ 2000 := by
                  have := tops_le _ (((ys.drop 1).drop B).take U) (Nat.le_refl _)
                  rw [HL1.out, hds_len _ _ (Nat.le_refl _)]
                  rw [List.length_take, List.length_drop, HLR.out] at this
                  omega
                have hm2 : m2 ≤ 2000 := by
                  have := tops_le _ (((ys.drop 1).drop (B + U)).take D) (Nat.le_refl _)
                  rw [HL2.out, hds_len _ _ (Nat.le_refl _)]
                  rw [List.length_take, List.length_drop, HLR.out] at this
                  omega
                have HDX : Hid (HdAt w4 X (hd ⟨zk, zc, zh, B, U, D⟩ (ys.drop 1)) a0 e0) := hideP (by rw [hhd]; exact ⟨hm0, hm1, hm2, a1, e1, a2, e2, hblk⟩)
                have CN : Hid (Calls Try.prog 36 #[.pointer (some ⟨X, 0, none⟩)] w4 fun e w' => e = .returned (.bool (atomB ⟨zk, zc, zh, B, U, D⟩ && (!decide (zk = 3) || twoB ((ys.drop 1).take B)))) ∧ Below w4.heap.size w4 w') := hideP (by
                  have hrow := (HF.out.1 (by omega)).2.abv (Abv.below hb4)
                  have hok0 := (HF.out.1 (by omega)).1
                  rw [HP0.out] at hok0
                  have hnb : (hd ⟨zk, zc, zh, B, U, D⟩ (ys.drop 1)).nb = m0 := by rw [hhd]
                  exact can_step (t := ⟨zk, zc, zh, B, U, D⟩) (r := ys.drop 1) HDX.out (by rw [hnb]; exact hrow) ⟨by simp, by simp, by simp⟩ (by show (B : Int) + (U : Int) + (D : Int) ≤ _; rw [HLR.out]; omega) (by rw [HLR.out]; omega) hok0)
                obtain ⟨cv, hcv⟩ : ∃ cv, cv = (atomB ⟨zk, zc, zh, B, U, D⟩ && (!decide (zk = 3) || twoB ((ys.drop 1).take B))) := ⟨_, rfl⟩
                rw [← hcv] at CN
                have HCV := hideP hcv
                have HB4 := hideP hb4
                have HX := hideP hX
                have B4 := hideP (below_more BW.out hb4 BW.out.size)
                have HHD := hideP hhd
                have HR4 := hideP (And.intro (HRW.out.1.abv (Abv.below (below_more B1.out.2 (below_more HH.out.2.1 hb4 HH.out.2.1.size) B1.out.2.size))) hblk)
                clear hw4 hX hblk hb4 hhd hm0 hm1 hm2 hcv f0 t0 t1 t2 g0 g1 g2
                as_aux_lemma =>
                  go_wp2_with fail
                  refine CN.out.mono ?_
                  rintro e w5 ⟨rfl, hb5⟩
                  have B5 := hideP (And.intro (below_more B4.out hb5 B4.out.size) hb5)
                  clear hb5
                  cases cv
                  · as_aux_lemma =>
                      have HE : Hid (false = R) := hideP (by
                        rw [HOK.out]
                        have hc := HCV.out
                        rcases ha : atomB ⟨zk, zc, zh, B, U, D⟩ with _ | _
                        · simp
                        · rw [ha, Bool.true_and] at hc
                          rw [← hc]
                          simp)
                      go_wp2
                      show PP (.returned (.tuple #[.slice none 0 0, .bool false])) _
                      rw [HPP.out]
                      exact ⟨⟨none, 0, 0, by rw [← HE.out], fun h => absurd (HE.out.trans h) (by decide), fun _ => rfl⟩, B5.out.1⟩
                  · obtain ⟨i0, hi0, hy0, hy1, hy2⟩ := info_parts Try.info49
                    obtain ⟨ps, hown, hpl, hpc⟩ := HR4.out.1.abv (Abv.below B5.out.2)
                    have HOW := hideP (And.intro hown (And.intro hpl hpc))
                    have hcapg : done.length ≤ n := by have := HDL.out; omega
                    have hw5 : w.heap.size ≤ w5.heap.size := B5.out.1.size
                    have hgb : w.heap.size ≤ g := by
                      rcases hown.2 with ⟨h0, _⟩ | ⟨g', cap, cur, hv, hg', hh, _⟩
                      · simp at h0
                      · simp only [Value.slice.injEq, Option.some.injEq, Addr.mk.injEq, and_true] at hv
                        obtain ⟨rfl, _⟩ := hv
                        exact hg'
                    have HGB := hideP hgb
                    obtain ⟨dl, hdl⟩ : ∃ dl, dl = done.length := ⟨_, rfl⟩
                    rw [← hdl] at hcapg ⊢
                    have HO2 : Hid (w5.ownsRow w.heap.size 49 1 (.slice (some ⟨g, 0, none⟩) dl c) dl (ps.map ptr)) := hideP (by rw [hdl]; exact hown)
                    have HDL2 := hideP hdl
                    clear hown hpl hpc hgb hdl
                    go_wp2_with (at_builtin; refine Hid.out ?_)
                    refine hideP ?_
                    refine wpList_append_own_at _ rfl (.tmp 70) (.tmp 72) 41 rfl w.heap.size 49 i0 (.pointer none) 1 8 Try.underlying41 hi0 hy0 hy1 hy2 rfl (by decide) (.slice (some ⟨g, 0, none⟩) dl c) dl (ps.map ptr) (by rfl) (World.ownsRow.alloc HO2.out _) ⟨w5.heap.size, 0, none⟩ 1 1 [.pointer (some ⟨X, 0, none⟩)] (by rfl) rfl (cell_one_new _ _ _) (by intro u hu; simp at hu; subst hu; rfl) (by unfold maxLen; omega) (by omega) (by simp; omega) ?_
                    intro v6 w6 hown6 hgrow6 hnil6 hlies6
                    have H6 := hideP hown6
                    have HG6 : Hid ((w5.alloc (.cells #[.pointer (some ⟨X, 0, none⟩)] 49)).grownBy w6 (some g)) := hideP hgrow6
                    clear hown6 hgrow6 hnil6 hlies6
                    as_aux_lemma =>
                      obtain ⟨g6, c6, hv6⟩ : ∃ g c, v6 = .slice (some ⟨g, 0, none⟩) (dl + 1) c := by
                        rcases H6.out.2 with ⟨_, h0⟩ | ⟨g, c, cur, h, _⟩
                        · omega
                        · exact ⟨g, c, h⟩
                      subst hv6
                      have B6 : Hid (Below w.heap.size w w6) := hideP (Below.grown (B5.out.1.alloc hw5 _) HG6.out (by simp; omega) (by intro j hj; simp at hj; subst hj; exact HGB.out))
                      have HP6 : Hid (HRow w.heap.size w6 (.slice (some ⟨g6, 0, none⟩) (dl + 1) c6) (done ++ [hd ⟨zk, zc, zh, B, U, D⟩ (ys.drop 1)])) := hideP (hrow_push HOW.out.1 HOW.out.2.1 HOW.out.2.2 (HDX.out.below B5.out.2) (by rw [HX.out]; exact BW.out.size) (by rw [← HDL2.out]; exact H6.out) HG6.out)
                      have HY6 : Hid (ARow 0 w (.slice (some ⟨b, od, none⟩) (M - (B + U + D)) cd) (ys.drop (1 + (B + U + D)))) := hideP (by
                        have h := HYP.out (B + U + D) (M - (B + U + D)) od cd (by omega) HSG.out.2.2.2
                        rw [List.drop_drop, List.take_of_length_le (by rw [List.length_drop]; have h1 := HLR.out; rw [List.length_drop] at h1; omega)] at h
                        exact h)
                      have HO6 : Hid (ok (ys.drop (1 + (B + U + D))) deep = R) := hideP (by
                        have h0 := (HF.out.1 (by omega)).1
                        have h1 := (HF.out.2.1 (by omega)).1
                        have h2 := (HF.out.2.2 (by omega)).1
                        have hc := HCV.out
                        have hr := HOK.out
                        rw [h0, h1, h2] at hr
                        have hc2 := hc.symm
                        rw [Bool.and_eq_true] at hc2
                        rw [hc2.1, hc2.2] at hr
                        simpa using hr.symm)
                      have HD6 : Hid ((done ++ [hd ⟨zk, zc, zh, B, U, D⟩ (ys.drop 1)]) ++ hds (ys.drop (1 + (B + U + D))) = hds xs) := hideP (by
                        have h := HD.out
                        rw [HYS.out, hds_cons] at h
                        have e3 : (At.kids ⟨zk, zc, zh, B, U, D⟩).toNat = B + U + D := by show ((B : Int) + (U : Int) + (D : Int)).toNat = _; omega
                        rw [e3, List.drop_drop] at h
                        rw [List.append_assoc]
                        exact h)
                      clear H6 HOW
                      go_wp2
                      go_roundw
                      case rel =>
                        refine ⟨some ⟨b, od, none⟩, M - (B + U + D), cd, ys.drop (1 + (B + U + D)), done ++ [hd ⟨zk, zc, zh, B, U, D⟩ (ys.drop 1)], g6, c6, rfl, by have := HM.out; omega, hcd, hcd9, HY6, HO6, HD6, hideP ?_, ?_, hideP ⟨?_, B6.out⟩⟩
                        · rw [List.length_append]
                          have := HDL.out
                          have := HM.out
                          simp
                          omega
                        · rw [List.length_append, HDL2.out]
                          try rfl
                        · rw [List.length_append, ← HDL2.out]
                          exact HP6.out
                      case measure =>
                        have := HM.out
                        simp only [sliceLen]
                        omega
        · have HE : Hid (false = R) := hideP (by
            rw [← HO.out]
            have hys : ys = ys.getD 0 At.none :: ys.drop 1 := by rw [← drop_at (by rw [HLY.out]; omega), List.drop_zero]
            rw [hys, ok_cons]
            by_cases hA : atomB (ys.getD 0 At.none) = true
            · have hcn := atomB_cnt hA
              have hk : ¬ ((ys.getD 0 At.none).kids ≤ ((ys.drop 1).length : Int)) := by
                rw [List.length_drop, HLY.out]
                unfold At.kids
                omega
              simp only [hk, decide_false, Bool.and_false, Bool.false_and]
            · have hA' : atomB (ys.getD 0 At.none) = false := Bool.eq_false_iff.2 hA
              simp only [hA', Bool.and_false, Bool.false_and])
          go_wp2
          show PP (.returned (.tuple #[.slice none 0 0, .bool false])) _
          rw [HPP.out]
          exact ⟨⟨none, 0, 0, by rw [← HE.out], fun h => absurd (HE.out.trans h) (by decide), fun _ => rfl⟩, below_more B1.out.1 (below1 _ _) B1.out.1.size⟩
end Go.Proofs.Ytfcfihlkckdmbaa
