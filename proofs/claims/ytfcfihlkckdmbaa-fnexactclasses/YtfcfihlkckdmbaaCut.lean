/-
  What belongs to the first atom, parted from what is behind it: the program.
-/
import Derived.Test.YtfcfihlkckdmbaaFrm
import Derived.RegionTactic
namespace Go.Proofs.Ytfcfihlkckdmbaa
open Go.RowKit
set_option linter.unusedVariables false
set_option linter.unusedSimpArgs false

theorem upTo_yes {x m : Int} (h1 : 0 ≤ x) (h2 : x ≤ m) (w : World) : Calls Try.prog 37 #[.int .i64 x, .int .i64 m] w fun e w' => e = .returned (.bool true) ∧ w' = w := by
  go_enter Try.func37, Try.ntmps37
  go_wp2
  go_ret
  exact ⟨rfl, rfl⟩
theorem upTo_no {x m : Int} (h : ¬ (0 ≤ x ∧ x ≤ m)) (w : World) : Calls Try.prog 37 #[.int .i64 x, .int .i64 m] w fun e w' => e = .returned (.bool false) ∧ w' = w := by
  by_cases h1 : 0 ≤ x
  · have h2 : ¬ x ≤ m := by omega
    go_enter Try.func37, Try.ntmps37
    go_wp2
    go_ret
    exact ⟨rfl, rfl⟩
  · go_enter Try.func37, Try.ntmps37
    go_wp2
    go_ret
    exact ⟨rfl, rfl⟩

theorem idx0 (a b c : Value) (w : World) : (Instr.index 62 (.agg #[a, b, c]) (.int .i64 0)).run Try.prog w = .ok a w := rfl
theorem idx1 (a b c : Value) (w : World) : (Instr.index 62 (.agg #[a, b, c]) (.int .i64 1)).run Try.prog w = .ok b w := rfl
theorem idx2 (a b c : Value) (w : World) : (Instr.index 62 (.agg #[a, b, c]) (.int .i64 2)).run Try.prog w = .ok c w := rfl

/-- A part of a row: q atoms from place s on. -/
def Seg (b o0 s q : Nat) (v : Value) : Prop := ∃ o c, v = .slice (some ⟨b, o, none⟩) q c ∧ (o = o0 + s * 6 ∨ q = 0) ∧ q ≤ c ∧ c ≤ 1000000000

/-- What is parted off when the first k of the three counts are. -/
def Cst (b o0 M k : Nat) (zb zu zd : Int) (beh v0 v1 v2 : Value) : Prop :=
  (k = 0 ∧ Seg b o0 0 M beh) ∨
  (k = 1 ∧ 0 ≤ zb ∧ zb ≤ M ∧ Seg b o0 0 zb.toNat v0 ∧ Seg b o0 zb.toNat (M - zb.toNat) beh) ∨
  (k = 2 ∧ 0 ≤ zb ∧ 0 ≤ zu ∧ zb + zu ≤ M ∧ Seg b o0 0 zb.toNat v0 ∧ Seg b o0 zb.toNat zu.toNat v1 ∧ Seg b o0 (zb + zu).toNat (M - (zb + zu).toNat) beh) ∨
  (k = 3 ∧ 0 ≤ zb ∧ 0 ≤ zu ∧ 0 ≤ zd ∧ zb + zu + zd ≤ M ∧ Seg b o0 0 zb.toNat v0 ∧ Seg b o0 zb.toNat zu.toNat v1 ∧ Seg b o0 (zb + zu).toNat zd.toNat v2 ∧ Seg b o0 (zb + zu + zd).toNat (M - (zb + zu + zd).toNat) beh)

set_option maxHeartbeats 4000000 in
theorem cutParts_any {b off n cap : Nat} {xs : List At} {w : World} (h : ARow 0 w (.slice (some ⟨b, off, none⟩) n cap) xs) (hn : n ≤ 2000) (hn0 : 0 < n) (hc : n ≤ cap) (hc9 : cap ≤ 1000000000) :
    Calls Try.prog 35 #[.slice (some ⟨b, off, none⟩) n cap] w fun e w' => ((∃ v0 v1 v2 beh, e = .returned (.tuple #[.agg #[v0, v1, v2], beh, .bool true]) ∧ ∃ o0, (o0 = off + 6 ∨ n = 1) ∧ Cst b o0 (n - 1) 3 (xs.getD 0 At.none).b (xs.getD 0 At.none).u (xs.getD 0 At.none).d beh v0 v1 v2) ∨ ((∃ a0 n0 q0 a1 n1 q1 a2 n2 q2, e = .returned (.tuple #[.agg #[.slice a0 n0 q0, .slice a1 n1 q1, .slice a2 n2 q2], .slice none 0 0, .bool false])) ∧ ¬ (0 ≤ (xs.getD 0 At.none).b ∧ 0 ≤ (xs.getD 0 At.none).u ∧ 0 ≤ (xs.getD 0 At.none).d ∧ (xs.getD 0 At.none).b + (xs.getD 0 At.none).u + (xs.getD 0 At.none).d ≤ (n - 1 : Nat)))) ∧ Below w.heap.size w w' := by
  have HA := hideP h
  have hl : xs.length = n := by obtain ⟨ao', n', c', he, hl, _⟩ := h; simp only [Value.slice.injEq] at he; rw [hl, ← he.2.1]
  obtain ⟨b', off', cap', hv, hb, c0, c1, c2, c3, c4, c5⟩ := ARow.cells h (k := 0) (by omega)
  simp only [Value.slice.injEq, Option.some.injEq, Addr.mk.injEq, and_true] at hv
  obtain ⟨⟨rfl, rfl⟩, hv1, hv2⟩ := hv
  obtain ⟨t, ht⟩ : ∃ t, t = xs.getD 0 At.none := ⟨_, rfl⟩
  rw [← ht] at c0 c1 c2 c3 c4 c5
  rw [← ht]
  clear h hl ht hv1 hv2 HA
  obtain ⟨zk, zc, zh, zb, zu, zd⟩ := t
  simp only [Nat.zero_mul, Nat.add_zero] at c0 c1 c2 c3 c4 c5
  obtain ⟨PP, hPP⟩ : ∃ PP : Ending → World → Prop, PP = fun e w' => ((∃ v0 v1 v2 beh, e = .returned (.tuple #[.agg #[v0, v1, v2], beh, .bool true]) ∧ ∃ o0, (o0 = off + 6 ∨ n = 1) ∧ Cst b o0 (n - 1) 3 zb zu zd beh v0 v1 v2) ∨ ((∃ a0 n0 q0 a1 n1 q1 a2 n2 q2, e = .returned (.tuple #[.agg #[.slice a0 n0 q0, .slice a1 n1 q1, .slice a2 n2 q2], .slice none 0 0, .bool false])) ∧ ¬ (0 ≤ zb ∧ 0 ≤ zu ∧ 0 ≤ zd ∧ zb + zu + zd ≤ (n - 1 : Nat)))) ∧ Below w.heap.size w w' := ⟨_, rfl⟩
  show Calls Try.prog 35 _ w (fun e w' => ((∃ v0 v1 v2 beh, e = .returned (.tuple #[.agg #[v0, v1, v2], beh, .bool true]) ∧ ∃ o0, (o0 = off + 6 ∨ n = 1) ∧ Cst b o0 (n - 1) 3 zb zu zd beh v0 v1 v2) ∨ ((∃ a0 n0 q0 a1 n1 q1 a2 n2 q2, e = .returned (.tuple #[.agg #[.slice a0 n0 q0, .slice a1 n1 q1, .slice a2 n2 q2], .slice none 0 0, .bool false])) ∧ ¬ (0 ≤ zb ∧ 0 ≤ zu ∧ 0 ≤ zd ∧ zb + zu + zd ≤ (n - 1 : Nat)))) ∧ Below w.heap.size w w')
  rw [← hPP]
  have HPP := hideP hPP
  clear hPP
  go_enter Try.func35, Try.ntmps35
  go_wp2_with fail
  by_cases hcp : cap = 1
  · go_region
    obtain ⟨o0, ho0⟩ : ∃ o, o = off := ⟨_, rfl⟩
    obtain ⟨e0, he0⟩ : ∃ o, o = 0 := ⟨_, rfl⟩
    obtain ⟨M, hM⟩ : ∃ o, o = n - 1 := ⟨_, rfl⟩
    rw [show Value.slice (some ⟨b, off, none⟩) (n - 1) (0) = Value.slice (some ⟨b, o0, none⟩) M e0 by rw [ho0, he0, hM]]
    have HO : Hid (o0 = off + 6 ∨ n = 1) := hideP (.inr (by omega))
    have hMe : M ≤ e0 := by omega
    have hM2 : M ≤ 2000 := by omega
    have he9 : e0 ≤ 1000000000 := by omega
    have HM := hideP hM
    clear hM ho0 he0 c0 c1 c2 c3 c4 c5 hcp
    go_wp2
    go_loopw [3, 20] (fun beh iv wr => ∃ (k : Nat) (kI : Int) (a0 a1 a2 : Option Addr) (n0 n1 n2 q0 q1 q2 : Nat) (be : Value), beh = be ∧ k ≤ 3 ∧ kI = (k : Int) ∧ iv = .int .i64 kI ∧ Cst b o0 M k zb zu zd be (.slice a0 n0 q0) (.slice a1 n1 q1) (.slice a2 n2 q2) ∧ Hid (wr.heap[w.heap.size]? = some (.cells #[.slice a0 n0 q0, .slice a1 n1 q1, .slice a2 n2 q2] 57 (0, 0)) ∧ Below w.heap.size w wr)) (fun _ iv _ => 3 - (intOf iv).toNat)
    case atStart =>
      refine ⟨0, 0, none, none, none, 0, 0, 0, 0, 0, 0, _, rfl, by omega, rfl, rfl, .inl ⟨rfl, o0, e0, rfl, .inl (by omega), hMe, he9⟩, hideP ⟨?_, ?_⟩⟩
      · exact ((below1 (w.alloc _) _).block _ (by simp)).trans (heap_alloc_new w _)
      · exact (below2 w _ _).drew
    case round =>
      obtain ⟨k, kI, a0, a1, a2, n0, n1, n2, q0, q1, q2, be, hbe, hk, hkI, rfl, hcst, HH⟩ := hrel
      have hbe2 := hbe.symm
      clear hbe
      subst hbe2
      rcases (show k = 0 ∨ k = 1 ∨ k = 2 ∨ k = 3 by omega) with rfl | rfl | rfl | rfl
      · obtain rfl : kI = 0 := by omega
        clear hkI hk
        have HC := hideP hcst
        have hcst2 : Seg b o0 0 M be := by rcases hcst with h | h | h | h <;> first | exact absurd h.1 (by decide) | exact h.2.2.2.2.2.2 | exact h.2.2.2.2 | exact h.2
        obtain ⟨o, c, rfl, ho, hq, hc9'⟩ := hcst2
        have hlo : True := by rcases hcst with h | h | h | h <;> first | exact absurd h.1 (by decide) | trivial | exact ⟨h.2.1, h.2.2.1⟩ | exact ⟨h.2.1, h.2.2.1, h.2.2.2.1⟩
        clear hcst
        have p0 : wr.cell? ⟨w.heap.size, 0, none⟩ = some (.slice a0 n0 q0) := by rw [cell_of_row wr _ _ _ 57 _ HH.out.1]; rfl
        have p1 : wr.cell? ⟨w.heap.size, 1, none⟩ = some (.slice a1 n1 q1) := by rw [cell_of_row wr _ _ _ 57 _ HH.out.1]; rfl
        have p2 : wr.cell? ⟨w.heap.size, 2, none⟩ = some (.slice a2 n2 q2) := by rw [cell_of_row wr _ _ _ 57 _ HH.out.1]; rfl
        have f0 : ∀ j, wr.frozen? ⟨w.heap.size, j, none⟩ = false := fun j => frozen_of_row wr _ j _ 57 HH.out.1
        have hix := fun W => idx0 (.int .i64 zb) (.int .i64 zu) (.int .i64 zd) W
        by_cases hup : 0 ≤ zb ∧ zb ≤ ((M : Nat) : Int)
        case neg =>
          have CU : Hid (∀ W, Calls Try.prog 37 #[.int .i64 zb, .int .i64 ((M : Nat) : Int)] W fun e w' => e = .returned (.bool false) ∧ w' = W) := hideP (upTo_no hup)
          have HN : Hid (¬ (0 ≤ zb ∧ 0 ≤ zu ∧ 0 ≤ zd ∧ zb + zu + zd ≤ (n - 1 : Nat))) := hideP (by rw [← HM.out]; omega)
          clear hup ho
          go_wp2_with (go_at_call 37; refine (CU.out _).mono ?_; rintro e w' ⟨rfl, rfl⟩)
          refine bodyPost_ret (v := .tuple #[.agg #[.slice a0 n0 q0, .slice a1 n1 q1, .slice a2 n2 q2], .slice none 0 0, .bool false]) (by simp [results, Try.results35, go_sem, p0, p1, p2]) rfl ?_
          rw [HPP.out]
          refine ⟨.inr ⟨⟨_, _, _, _, _, _, _, _, _, rfl⟩, HN.out⟩, ?_⟩
          repeat (first | exact HH.out.2 | exact HH.out.2.drew | refine Below.setCell ?_ (by first | (simp; done) | (simp; omega)) _)
        case pos =>
          have CU : Hid (∀ W, Calls Try.prog 37 #[.int .i64 zb, .int .i64 ((M : Nat) : Int)] W fun e w' => e = .returned (.bool true) ∧ w' = W) := hideP (upTo_yes hup.1 hup.2)
          obtain ⟨Z, rfl⟩ : ∃ Z : Nat, zb = (Z : Int) := ⟨zb.toNat, by omega⟩
          have HUP := hideP hup
          have hZr : Z ≤ M := by omega
          have hZc : Z ≤ c := by omega
          go_wp2_with (go_at_call 37; refine (CU.out _).mono ?_; rintro e w' ⟨rfl, rfl⟩)
          by_cases hcz : c = Z
          · have HCZ := hideP hcz
            subst hcz
            go_region
            go_wp2
            go_roundw
            case rel =>
              refine ⟨1, 1, some ⟨b, o, none⟩, a1, a2, c, n1, n2, c, q1, q2, _, rfl, by omega, rfl, rfl, ?_, hideP ⟨?_, ?_⟩⟩
              · rcases HC.out with h | h | h | h <;> first | exact absurd h.1 (by decide) | skip
                exact .inr (.inl ⟨rfl, by omega, by omega, ⟨_, _, rfl, by omega, by omega, by omega⟩, ⟨o, 0, by simp only [Value.slice.injEq, true_and, and_true]; omega, by omega, by omega, by omega⟩⟩)
              · exact heap_setCell_same _ _ _ _ _ _ HH.out.1
              · repeat (first | exact HH.out.2 | exact HH.out.2.drew | refine Below.setCell ?_ (by first | (simp; done) | (simp; omega)) _ | refine Below.drew ?_)
            case measure => simp [intOf]
          · go_region
            go_wp2
            go_roundw
            case rel =>
              refine ⟨1, 1, some ⟨b, o, none⟩, a1, a2, Z, n1, n2, c, q1, q2, _, rfl, by omega, rfl, rfl, ?_, hideP ⟨?_, ?_⟩⟩
              · rcases HC.out with h | h | h | h <;> first | exact absurd h.1 (by decide) | skip
                exact .inr (.inl ⟨rfl, by omega, by omega, ⟨_, _, rfl, by omega, by omega, by omega⟩, ⟨_, _, rfl, by omega, by omega, by omega⟩⟩)
              · exact heap_setCell_same _ _ _ _ _ _ HH.out.1
              · repeat (first | exact HH.out.2 | exact HH.out.2.drew | refine Below.setCell ?_ (by first | (simp; done) | (simp; omega)) _ | refine Below.drew ?_)
            case measure => simp [intOf]
      · obtain rfl : kI = 1 := by omega
        clear hkI hk
        have HC := hideP hcst
        have hcst2 : Seg b o0 zb.toNat (M - zb.toNat) be := by rcases hcst with h | h | h | h <;> first | exact absurd h.1 (by decide) | exact h.2.2.2.2.2.2 | exact h.2.2.2.2 | exact h.2
        obtain ⟨o, c, rfl, ho, hq, hc9'⟩ := hcst2
        have hlo : 0 ≤ zb ∧ zb ≤ M := by rcases hcst with h | h | h | h <;> first | exact absurd h.1 (by decide) | trivial | exact ⟨h.2.1, h.2.2.1⟩ | exact ⟨h.2.1, h.2.2.1, h.2.2.2.1⟩
        clear hcst
        have p0 : wr.cell? ⟨w.heap.size, 0, none⟩ = some (.slice a0 n0 q0) := by rw [cell_of_row wr _ _ _ 57 _ HH.out.1]; rfl
        have p1 : wr.cell? ⟨w.heap.size, 1, none⟩ = some (.slice a1 n1 q1) := by rw [cell_of_row wr _ _ _ 57 _ HH.out.1]; rfl
        have p2 : wr.cell? ⟨w.heap.size, 2, none⟩ = some (.slice a2 n2 q2) := by rw [cell_of_row wr _ _ _ 57 _ HH.out.1]; rfl
        have f0 : ∀ j, wr.frozen? ⟨w.heap.size, j, none⟩ = false := fun j => frozen_of_row wr _ j _ 57 HH.out.1
        have hix := fun W => idx1 (.int .i64 zb) (.int .i64 zu) (.int .i64 zd) W
        by_cases hup : 0 ≤ zu ∧ zu ≤ (((M - zb.toNat) : Nat) : Int)
        case neg =>
          have CU : Hid (∀ W, Calls Try.prog 37 #[.int .i64 zu, .int .i64 (((M - zb.toNat) : Nat) : Int)] W fun e w' => e = .returned (.bool false) ∧ w' = W) := hideP (upTo_no hup)
          have HN : Hid (¬ (0 ≤ zb ∧ 0 ≤ zu ∧ 0 ≤ zd ∧ zb + zu + zd ≤ (n - 1 : Nat))) := hideP (by rw [← HM.out]; omega)
          clear hup ho
          go_wp2_with (go_at_call 37; refine (CU.out _).mono ?_; rintro e w' ⟨rfl, rfl⟩)
          refine bodyPost_ret (v := .tuple #[.agg #[.slice a0 n0 q0, .slice a1 n1 q1, .slice a2 n2 q2], .slice none 0 0, .bool false]) (by simp [results, Try.results35, go_sem, p0, p1, p2]) rfl ?_
          rw [HPP.out]
          refine ⟨.inr ⟨⟨_, _, _, _, _, _, _, _, _, rfl⟩, HN.out⟩, ?_⟩
          repeat (first | exact HH.out.2 | exact HH.out.2.drew | refine Below.setCell ?_ (by first | (simp; done) | (simp; omega)) _)
        case pos =>
          have CU : Hid (∀ W, Calls Try.prog 37 #[.int .i64 zu, .int .i64 (((M - zb.toNat) : Nat) : Int)] W fun e w' => e = .returned (.bool true) ∧ w' = W) := hideP (upTo_yes hup.1 hup.2)
          obtain ⟨Z, rfl⟩ : ∃ Z : Nat, zu = (Z : Int) := ⟨zu.toNat, by omega⟩
          have HUP := hideP hup
          have hZr : Z ≤ (M - zb.toNat) := by omega
          have hZc : Z ≤ c := by omega
          go_wp2_with (go_at_call 37; refine (CU.out _).mono ?_; rintro e w' ⟨rfl, rfl⟩)
          by_cases hcz : c = Z
          · have HCZ := hideP hcz
            subst hcz
            go_region
            go_wp2
            go_roundw
            case rel =>
              refine ⟨2, 2, a0, some ⟨b, o, none⟩, a2, n0, c, n2, q0, c, q2, _, rfl, by omega, rfl, rfl, ?_, hideP ⟨?_, ?_⟩⟩
              · rcases HC.out with h | h | h | h <;> first | exact absurd h.1 (by decide) | skip
                exact .inr (.inr (.inl ⟨rfl, by omega, by omega, by omega, h.2.2.2.1, ⟨_, _, rfl, by omega, by omega, by omega⟩, ⟨o, 0, by simp only [Value.slice.injEq, true_and, and_true]; omega, by omega, by omega, by omega⟩⟩))
              · exact heap_setCell_same _ _ _ _ _ _ HH.out.1
              · repeat (first | exact HH.out.2 | exact HH.out.2.drew | refine Below.setCell ?_ (by first | (simp; done) | (simp; omega)) _ | refine Below.drew ?_)
            case measure => simp [intOf]
          · go_region
            go_wp2
            go_roundw
            case rel =>
              refine ⟨2, 2, a0, some ⟨b, o, none⟩, a2, n0, Z, n2, q0, c, q2, _, rfl, by omega, rfl, rfl, ?_, hideP ⟨?_, ?_⟩⟩
              · rcases HC.out with h | h | h | h <;> first | exact absurd h.1 (by decide) | skip
                exact .inr (.inr (.inl ⟨rfl, by omega, by omega, by omega, h.2.2.2.1, ⟨_, _, rfl, by omega, by omega, by omega⟩, ⟨o + Z * 6, c - Z, by simp only [Value.slice.injEq, true_and, and_true]; omega, by omega, by omega, by omega⟩⟩))
              · exact heap_setCell_same _ _ _ _ _ _ HH.out.1
              · repeat (first | exact HH.out.2 | exact HH.out.2.drew | refine Below.setCell ?_ (by first | (simp; done) | (simp; omega)) _ | refine Below.drew ?_)
            case measure => simp [intOf]
      · obtain rfl : kI = 2 := by omega
        clear hkI hk
        have HC := hideP hcst
        have hcst2 : Seg b o0 (zb + zu).toNat (M - (zb + zu).toNat) be := by rcases hcst with h | h | h | h <;> first | exact absurd h.1 (by decide) | exact h.2.2.2.2.2.2 | exact h.2.2.2.2 | exact h.2
        obtain ⟨o, c, rfl, ho, hq, hc9'⟩ := hcst2
        have hlo : 0 ≤ zb ∧ 0 ≤ zu ∧ zb + zu ≤ M := by rcases hcst with h | h | h | h <;> first | exact absurd h.1 (by decide) | trivial | exact ⟨h.2.1, h.2.2.1⟩ | exact ⟨h.2.1, h.2.2.1, h.2.2.2.1⟩
        clear hcst
        have p0 : wr.cell? ⟨w.heap.size, 0, none⟩ = some (.slice a0 n0 q0) := by rw [cell_of_row wr _ _ _ 57 _ HH.out.1]; rfl
        have p1 : wr.cell? ⟨w.heap.size, 1, none⟩ = some (.slice a1 n1 q1) := by rw [cell_of_row wr _ _ _ 57 _ HH.out.1]; rfl
        have p2 : wr.cell? ⟨w.heap.size, 2, none⟩ = some (.slice a2 n2 q2) := by rw [cell_of_row wr _ _ _ 57 _ HH.out.1]; rfl
        have f0 : ∀ j, wr.frozen? ⟨w.heap.size, j, none⟩ = false := fun j => frozen_of_row wr _ j _ 57 HH.out.1
        have hix := fun W => idx2 (.int .i64 zb) (.int .i64 zu) (.int .i64 zd) W
        by_cases hup : 0 ≤ zd ∧ zd ≤ (((M - (zb + zu).toNat) : Nat) : Int)
        case neg =>
          have CU : Hid (∀ W, Calls Try.prog 37 #[.int .i64 zd, .int .i64 (((M - (zb + zu).toNat) : Nat) : Int)] W fun e w' => e = .returned (.bool false) ∧ w' = W) := hideP (upTo_no hup)
          have HN : Hid (¬ (0 ≤ zb ∧ 0 ≤ zu ∧ 0 ≤ zd ∧ zb + zu + zd ≤ (n - 1 : Nat))) := hideP (by rw [← HM.out]; omega)
          clear hup ho
          go_wp2_with (go_at_call 37; refine (CU.out _).mono ?_; rintro e w' ⟨rfl, rfl⟩)
          refine bodyPost_ret (v := .tuple #[.agg #[.slice a0 n0 q0, .slice a1 n1 q1, .slice a2 n2 q2], .slice none 0 0, .bool false]) (by simp [results, Try.results35, go_sem, p0, p1, p2]) rfl ?_
          rw [HPP.out]
          refine ⟨.inr ⟨⟨_, _, _, _, _, _, _, _, _, rfl⟩, HN.out⟩, ?_⟩
          repeat (first | exact HH.out.2 | exact HH.out.2.drew | refine Below.setCell ?_ (by first | (simp; done) | (simp; omega)) _)
        case pos =>
          have CU : Hid (∀ W, Calls Try.prog 37 #[.int .i64 zd, .int .i64 (((M - (zb + zu).toNat) : Nat) : Int)] W fun e w' => e = .returned (.bool true) ∧ w' = W) := hideP (upTo_yes hup.1 hup.2)
          obtain ⟨Z, rfl⟩ : ∃ Z : Nat, zd = (Z : Int) := ⟨zd.toNat, by omega⟩
          have HUP := hideP hup
          have hZr : Z ≤ (M - (zb + zu).toNat) := by omega
          have hZc : Z ≤ c := by omega
          go_wp2_with (go_at_call 37; refine (CU.out _).mono ?_; rintro e w' ⟨rfl, rfl⟩)
          by_cases hcz : c = Z
          · have HCZ := hideP hcz
            subst hcz
            go_region
            go_wp2
            go_roundw
            case rel =>
              refine ⟨3, 3, a0, a1, some ⟨b, o, none⟩, n0, n1, c, q0, q1, c, _, rfl, by omega, rfl, rfl, ?_, hideP ⟨?_, ?_⟩⟩
              · rcases HC.out with h | h | h | h <;> first | exact absurd h.1 (by decide) | skip
                exact .inr (.inr (.inr ⟨rfl, by omega, by omega, by omega, by omega, h.2.2.2.2.1, h.2.2.2.2.2.1, ⟨_, _, rfl, by omega, by omega, by omega⟩, ⟨o, 0, by simp only [Value.slice.injEq, true_and, and_true]; omega, by omega, by omega, by omega⟩⟩))
              · exact heap_setCell_same _ _ _ _ _ _ HH.out.1
              · repeat (first | exact HH.out.2 | exact HH.out.2.drew | refine Below.setCell ?_ (by first | (simp; done) | (simp; omega)) _ | refine Below.drew ?_)
            case measure => simp [intOf]
          · go_region
            go_wp2
            go_roundw
            case rel =>
              refine ⟨3, 3, a0, a1, some ⟨b, o, none⟩, n0, n1, Z, q0, q1, c, _, rfl, by omega, rfl, rfl, ?_, hideP ⟨?_, ?_⟩⟩
              · rcases HC.out with h | h | h | h <;> first | exact absurd h.1 (by decide) | skip
                exact .inr (.inr (.inr ⟨rfl, by omega, by omega, by omega, by omega, h.2.2.2.2.1, h.2.2.2.2.2.1, ⟨_, _, rfl, by omega, by omega, by omega⟩, ⟨o + Z * 6, c - Z, by simp only [Value.slice.injEq, true_and, and_true]; omega, by omega, by omega, by omega⟩⟩))
              · exact heap_setCell_same _ _ _ _ _ _ HH.out.1
              · repeat (first | exact HH.out.2 | exact HH.out.2.drew | refine Below.setCell ?_ (by first | (simp; done) | (simp; omega)) _ | refine Below.drew ?_)
            case measure => simp [intOf]
      · obtain rfl : kI = 3 := by omega
        clear hkI hk
        have HC := hideP hcst
        have p0 : wr.cell? ⟨w.heap.size, 0, none⟩ = some (.slice a0 n0 q0) := by rw [cell_of_row wr _ _ _ 57 _ HH.out.1]; rfl
        have p1 : wr.cell? ⟨w.heap.size, 1, none⟩ = some (.slice a1 n1 q1) := by rw [cell_of_row wr _ _ _ 57 _ HH.out.1]; rfl
        have p2 : wr.cell? ⟨w.heap.size, 2, none⟩ = some (.slice a2 n2 q2) := by rw [cell_of_row wr _ _ _ 57 _ HH.out.1]; rfl
        have f0 : ∀ j, wr.frozen? ⟨w.heap.size, j, none⟩ = false := fun j => frozen_of_row wr _ j _ 57 HH.out.1
        clear hcst
        go_wp2
        refine bodyPost_ret (v := .tuple #[.agg #[.slice a0 n0 q0, .slice a1 n1 q1, .slice a2 n2 q2], be, .bool true]) (by simp [results, Try.results35, go_sem, p0, p1, p2]) rfl ?_
        rw [HPP.out]
        refine ⟨.inl ⟨_, _, _, _, rfl, o0, HO.out, by rw [← HM.out]; exact HC.out⟩, ?_⟩
        repeat (first | exact HH.out.2 | exact HH.out.2.drew | refine Below.setCell ?_ (by first | (simp; done) | (simp; omega)) _)
  · go_region
    obtain ⟨o0, ho0⟩ : ∃ o, o = off + 6 := ⟨_, rfl⟩
    obtain ⟨e0, he0⟩ : ∃ o, o = cap - 1 := ⟨_, rfl⟩
    obtain ⟨M, hM⟩ : ∃ o, o = n - 1 := ⟨_, rfl⟩
    rw [show Value.slice (some ⟨b, off + 6, none⟩) (n - 1) (cap - 1) = Value.slice (some ⟨b, o0, none⟩) M e0 by rw [ho0, he0, hM]]
    have HO : Hid (o0 = off + 6 ∨ n = 1) := hideP (.inl ho0)
    have hMe : M ≤ e0 := by omega
    have hM2 : M ≤ 2000 := by omega
    have he9 : e0 ≤ 1000000000 := by omega
    have HM := hideP hM
    clear hM ho0 he0 c0 c1 c2 c3 c4 c5 hcp
    go_wp2
    go_loopw [3, 20] (fun beh iv wr => ∃ (k : Nat) (kI : Int) (a0 a1 a2 : Option Addr) (n0 n1 n2 q0 q1 q2 : Nat) (be : Value), beh = be ∧ k ≤ 3 ∧ kI = (k : Int) ∧ iv = .int .i64 kI ∧ Cst b o0 M k zb zu zd be (.slice a0 n0 q0) (.slice a1 n1 q1) (.slice a2 n2 q2) ∧ Hid (wr.heap[w.heap.size]? = some (.cells #[.slice a0 n0 q0, .slice a1 n1 q1, .slice a2 n2 q2] 57 (0, 0)) ∧ Below w.heap.size w wr)) (fun _ iv _ => 3 - (intOf iv).toNat)
    case atStart =>
      refine ⟨0, 0, none, none, none, 0, 0, 0, 0, 0, 0, _, rfl, by omega, rfl, rfl, .inl ⟨rfl, o0, e0, rfl, .inl (by omega), hMe, he9⟩, hideP ⟨?_, ?_⟩⟩
      · exact ((below1 (w.alloc _) _).block _ (by simp)).trans (heap_alloc_new w _)
      · exact (below2 w _ _).drew
    case round =>
      obtain ⟨k, kI, a0, a1, a2, n0, n1, n2, q0, q1, q2, be, hbe, hk, hkI, rfl, hcst, HH⟩ := hrel
      have hbe2 := hbe.symm
      clear hbe
      subst hbe2
      rcases (show k = 0 ∨ k = 1 ∨ k = 2 ∨ k = 3 by omega) with rfl | rfl | rfl | rfl
      · obtain rfl : kI = 0 := by omega
        clear hkI hk
        have HC := hideP hcst
        have hcst2 : Seg b o0 0 M be := by rcases hcst with h | h | h | h <;> first | exact absurd h.1 (by decide) | exact h.2.2.2.2.2.2 | exact h.2.2.2.2 | exact h.2
        obtain ⟨o, c, rfl, ho, hq, hc9'⟩ := hcst2
        have hlo : True := by rcases hcst with h | h | h | h <;> first | exact absurd h.1 (by decide) | trivial | exact ⟨h.2.1, h.2.2.1⟩ | exact ⟨h.2.1, h.2.2.1, h.2.2.2.1⟩
        clear hcst
        have p0 : wr.cell? ⟨w.heap.size, 0, none⟩ = some (.slice a0 n0 q0) := by rw [cell_of_row wr _ _ _ 57 _ HH.out.1]; rfl
        have p1 : wr.cell? ⟨w.heap.size, 1, none⟩ = some (.slice a1 n1 q1) := by rw [cell_of_row wr _ _ _ 57 _ HH.out.1]; rfl
        have p2 : wr.cell? ⟨w.heap.size, 2, none⟩ = some (.slice a2 n2 q2) := by rw [cell_of_row wr _ _ _ 57 _ HH.out.1]; rfl
        have f0 : ∀ j, wr.frozen? ⟨w.heap.size, j, none⟩ = false := fun j => frozen_of_row wr _ j _ 57 HH.out.1
        have hix := fun W => idx0 (.int .i64 zb) (.int .i64 zu) (.int .i64 zd) W
        by_cases hup : 0 ≤ zb ∧ zb ≤ ((M : Nat) : Int)
        case neg =>
          have CU : Hid (∀ W, Calls Try.prog 37 #[.int .i64 zb, .int .i64 ((M : Nat) : Int)] W fun e w' => e = .returned (.bool false) ∧ w' = W) := hideP (upTo_no hup)
          have HN : Hid (¬ (0 ≤ zb ∧ 0 ≤ zu ∧ 0 ≤ zd ∧ zb + zu + zd ≤ (n - 1 : Nat))) := hideP (by rw [← HM.out]; omega)
          clear hup ho
          go_wp2_with (go_at_call 37; refine (CU.out _).mono ?_; rintro e w' ⟨rfl, rfl⟩)
          refine bodyPost_ret (v := .tuple #[.agg #[.slice a0 n0 q0, .slice a1 n1 q1, .slice a2 n2 q2], .slice none 0 0, .bool false]) (by simp [results, Try.results35, go_sem, p0, p1, p2]) rfl ?_
          rw [HPP.out]
          refine ⟨.inr ⟨⟨_, _, _, _, _, _, _, _, _, rfl⟩, HN.out⟩, ?_⟩
          repeat (first | exact HH.out.2 | exact HH.out.2.drew | refine Below.setCell ?_ (by first | (simp; done) | (simp; omega)) _)
        case pos =>
          have CU : Hid (∀ W, Calls Try.prog 37 #[.int .i64 zb, .int .i64 ((M : Nat) : Int)] W fun e w' => e = .returned (.bool true) ∧ w' = W) := hideP (upTo_yes hup.1 hup.2)
          obtain ⟨Z, rfl⟩ : ∃ Z : Nat, zb = (Z : Int) := ⟨zb.toNat, by omega⟩
          have HUP := hideP hup
          have hZr : Z ≤ M := by omega
          have hZc : Z ≤ c := by omega
          go_wp2_with (go_at_call 37; refine (CU.out _).mono ?_; rintro e w' ⟨rfl, rfl⟩)
          by_cases hcz : c = Z
          · have HCZ := hideP hcz
            subst hcz
            go_region
            go_wp2
            go_roundw
            case rel =>
              refine ⟨1, 1, some ⟨b, o, none⟩, a1, a2, c, n1, n2, c, q1, q2, _, rfl, by omega, rfl, rfl, ?_, hideP ⟨?_, ?_⟩⟩
              · rcases HC.out with h | h | h | h <;> first | exact absurd h.1 (by decide) | skip
                exact .inr (.inl ⟨rfl, by omega, by omega, ⟨_, _, rfl, by omega, by omega, by omega⟩, ⟨o, 0, by simp only [Value.slice.injEq, true_and, and_true]; omega, by omega, by omega, by omega⟩⟩)
              · exact heap_setCell_same _ _ _ _ _ _ HH.out.1
              · repeat (first | exact HH.out.2 | exact HH.out.2.drew | refine Below.setCell ?_ (by first | (simp; done) | (simp; omega)) _ | refine Below.drew ?_)
            case measure => simp [intOf]
          · go_region
            go_wp2
            go_roundw
            case rel =>
              refine ⟨1, 1, some ⟨b, o, none⟩, a1, a2, Z, n1, n2, c, q1, q2, _, rfl, by omega, rfl, rfl, ?_, hideP ⟨?_, ?_⟩⟩
              · rcases HC.out with h | h | h | h <;> first | exact absurd h.1 (by decide) | skip
                exact .inr (.inl ⟨rfl, by omega, by omega, ⟨_, _, rfl, by omega, by omega, by omega⟩, ⟨_, _, rfl, by omega, by omega, by omega⟩⟩)
              · exact heap_setCell_same _ _ _ _ _ _ HH.out.1
              · repeat (first | exact HH.out.2 | exact HH.out.2.drew | refine Below.setCell ?_ (by first | (simp; done) | (simp; omega)) _ | refine Below.drew ?_)
            case measure => simp [intOf]
      · obtain rfl : kI = 1 := by omega
        clear hkI hk
        have HC := hideP hcst
        have hcst2 : Seg b o0 zb.toNat (M - zb.toNat) be := by rcases hcst with h | h | h | h <;> first | exact absurd h.1 (by decide) | exact h.2.2.2.2.2.2 | exact h.2.2.2.2 | exact h.2
        obtain ⟨o, c, rfl, ho, hq, hc9'⟩ := hcst2
        have hlo : 0 ≤ zb ∧ zb ≤ M := by rcases hcst with h | h | h | h <;> first | exact absurd h.1 (by decide) | trivial | exact ⟨h.2.1, h.2.2.1⟩ | exact ⟨h.2.1, h.2.2.1, h.2.2.2.1⟩
        clear hcst
        have p0 : wr.cell? ⟨w.heap.size, 0, none⟩ = some (.slice a0 n0 q0) := by rw [cell_of_row wr _ _ _ 57 _ HH.out.1]; rfl
        have p1 : wr.cell? ⟨w.heap.size, 1, none⟩ = some (.slice a1 n1 q1) := by rw [cell_of_row wr _ _ _ 57 _ HH.out.1]; rfl
        have p2 : wr.cell? ⟨w.heap.size, 2, none⟩ = some (.slice a2 n2 q2) := by rw [cell_of_row wr _ _ _ 57 _ HH.out.1]; rfl
        have f0 : ∀ j, wr.frozen? ⟨w.heap.size, j, none⟩ = false := fun j => frozen_of_row wr _ j _ 57 HH.out.1
        have hix := fun W => idx1 (.int .i64 zb) (.int .i64 zu) (.int .i64 zd) W
        by_cases hup : 0 ≤ zu ∧ zu ≤ (((M - zb.toNat) : Nat) : Int)
        case neg =>
          have CU : Hid (∀ W, Calls Try.prog 37 #[.int .i64 zu, .int .i64 (((M - zb.toNat) : Nat) : Int)] W fun e w' => e = .returned (.bool false) ∧ w' = W) := hideP (upTo_no hup)
          have HN : Hid (¬ (0 ≤ zb ∧ 0 ≤ zu ∧ 0 ≤ zd ∧ zb + zu + zd ≤ (n - 1 : Nat))) := hideP (by rw [← HM.out]; omega)
          clear hup ho
          go_wp2_with (go_at_call 37; refine (CU.out _).mono ?_; rintro e w' ⟨rfl, rfl⟩)
          refine bodyPost_ret (v := .tuple #[.agg #[.slice a0 n0 q0, .slice a1 n1 q1, .slice a2 n2 q2], .slice none 0 0, .bool false]) (by simp [results, Try.results35, go_sem, p0, p1, p2]) rfl ?_
          rw [HPP.out]
          refine ⟨.inr ⟨⟨_, _, _, _, _, _, _, _, _, rfl⟩, HN.out⟩, ?_⟩
          repeat (first | exact HH.out.2 | exact HH.out.2.drew | refine Below.setCell ?_ (by first | (simp; done) | (simp; omega)) _)
        case pos =>
          have CU : Hid (∀ W, Calls Try.prog 37 #[.int .i64 zu, .int .i64 (((M - zb.toNat) : Nat) : Int)] W fun e w' => e = .returned (.bool true) ∧ w' = W) := hideP (upTo_yes hup.1 hup.2)
          obtain ⟨Z, rfl⟩ : ∃ Z : Nat, zu = (Z : Int) := ⟨zu.toNat, by omega⟩
          have HUP := hideP hup
          have hZr : Z ≤ (M - zb.toNat) := by omega
          have hZc : Z ≤ c := by omega
          go_wp2_with (go_at_call 37; refine (CU.out _).mono ?_; rintro e w' ⟨rfl, rfl⟩)
          by_cases hcz : c = Z
          · have HCZ := hideP hcz
            subst hcz
            go_region
            go_wp2
            go_roundw
            case rel =>
              refine ⟨2, 2, a0, some ⟨b, o, none⟩, a2, n0, c, n2, q0, c, q2, _, rfl, by omega, rfl, rfl, ?_, hideP ⟨?_, ?_⟩⟩
              · rcases HC.out with h | h | h | h <;> first | exact absurd h.1 (by decide) | skip
                exact .inr (.inr (.inl ⟨rfl, by omega, by omega, by omega, h.2.2.2.1, ⟨_, _, rfl, by omega, by omega, by omega⟩, ⟨o, 0, by simp only [Value.slice.injEq, true_and, and_true]; omega, by omega, by omega, by omega⟩⟩))
              · exact heap_setCell_same _ _ _ _ _ _ HH.out.1
              · repeat (first | exact HH.out.2 | exact HH.out.2.drew | refine Below.setCell ?_ (by first | (simp; done) | (simp; omega)) _ | refine Below.drew ?_)
            case measure => simp [intOf]
          · go_region
            go_wp2
            go_roundw
            case rel =>
              refine ⟨2, 2, a0, some ⟨b, o, none⟩, a2, n0, Z, n2, q0, c, q2, _, rfl, by omega, rfl, rfl, ?_, hideP ⟨?_, ?_⟩⟩
              · rcases HC.out with h | h | h | h <;> first | exact absurd h.1 (by decide) | skip
                exact .inr (.inr (.inl ⟨rfl, by omega, by omega, by omega, h.2.2.2.1, ⟨_, _, rfl, by omega, by omega, by omega⟩, ⟨o + Z * 6, c - Z, by simp only [Value.slice.injEq, true_and, and_true]; omega, by omega, by omega, by omega⟩⟩))
              · exact heap_setCell_same _ _ _ _ _ _ HH.out.1
              · repeat (first | exact HH.out.2 | exact HH.out.2.drew | refine Below.setCell ?_ (by first | (simp; done) | (simp; omega)) _ | refine Below.drew ?_)
            case measure => simp [intOf]
      · obtain rfl : kI = 2 := by omega
        clear hkI hk
        have HC := hideP hcst
        have hcst2 : Seg b o0 (zb + zu).toNat (M - (zb + zu).toNat) be := by rcases hcst with h | h | h | h <;> first | exact absurd h.1 (by decide) | exact h.2.2.2.2.2.2 | exact h.2.2.2.2 | exact h.2
        obtain ⟨o, c, rfl, ho, hq, hc9'⟩ := hcst2
        have hlo : 0 ≤ zb ∧ 0 ≤ zu ∧ zb + zu ≤ M := by rcases hcst with h | h | h | h <;> first | exact absurd h.1 (by decide) | trivial | exact ⟨h.2.1, h.2.2.1⟩ | exact ⟨h.2.1, h.2.2.1, h.2.2.2.1⟩
        clear hcst
        have p0 : wr.cell? ⟨w.heap.size, 0, none⟩ = some (.slice a0 n0 q0) := by rw [cell_of_row wr _ _ _ 57 _ HH.out.1]; rfl
        have p1 : wr.cell? ⟨w.heap.size, 1, none⟩ = some (.slice a1 n1 q1) := by rw [cell_of_row wr _ _ _ 57 _ HH.out.1]; rfl
        have p2 : wr.cell? ⟨w.heap.size, 2, none⟩ = some (.slice a2 n2 q2) := by rw [cell_of_row wr _ _ _ 57 _ HH.out.1]; rfl
        have f0 : ∀ j, wr.frozen? ⟨w.heap.size, j, none⟩ = false := fun j => frozen_of_row wr _ j _ 57 HH.out.1
        have hix := fun W => idx2 (.int .i64 zb) (.int .i64 zu) (.int .i64 zd) W
        by_cases hup : 0 ≤ zd ∧ zd ≤ (((M - (zb + zu).toNat) : Nat) : Int)
        case neg =>
          have CU : Hid (∀ W, Calls Try.prog 37 #[.int .i64 zd, .int .i64 (((M - (zb + zu).toNat) : Nat) : Int)] W fun e w' => e = .returned (.bool false) ∧ w' = W) := hideP (upTo_no hup)
          have HN : Hid (¬ (0 ≤ zb ∧ 0 ≤ zu ∧ 0 ≤ zd ∧ zb + zu + zd ≤ (n - 1 : Nat))) := hideP (by rw [← HM.out]; omega)
          clear hup ho
          go_wp2_with (go_at_call 37; refine (CU.out _).mono ?_; rintro e w' ⟨rfl, rfl⟩)
          refine bodyPost_ret (v := .tuple #[.agg #[.slice a0 n0 q0, .slice a1 n1 q1, .slice a2 n2 q2], .slice none 0 0, .bool false]) (by simp [results, Try.results35, go_sem, p0, p1, p2]) rfl ?_
          rw [HPP.out]
          refine ⟨.inr ⟨⟨_, _, _, _, _, _, _, _, _, rfl⟩, HN.out⟩, ?_⟩
          repeat (first | exact HH.out.2 | exact HH.out.2.drew | refine Below.setCell ?_ (by first | (simp; done) | (simp; omega)) _)
        case pos =>
          have CU : Hid (∀ W, Calls Try.prog 37 #[.int .i64 zd, .int .i64 (((M - (zb + zu).toNat) : Nat) : Int)] W fun e w' => e = .returned (.bool true) ∧ w' = W) := hideP (upTo_yes hup.1 hup.2)
          obtain ⟨Z, rfl⟩ : ∃ Z : Nat, zd = (Z : Int) := ⟨zd.toNat, by omega⟩
          have HUP := hideP hup
          have hZr : Z ≤ (M - (zb + zu).toNat) := by omega
          have hZc : Z ≤ c := by omega
          go_wp2_with (go_at_call 37; refine (CU.out _).mono ?_; rintro e w' ⟨rfl, rfl⟩)
          by_cases hcz : c = Z
          · have HCZ := hideP hcz
            subst hcz
            go_region
            go_wp2
            go_roundw
            case rel =>
              refine ⟨3, 3, a0, a1, some ⟨b, o, none⟩, n0, n1, c, q0, q1, c, _, rfl, by omega, rfl, rfl, ?_, hideP ⟨?_, ?_⟩⟩
              · rcases HC.out with h | h | h | h <;> first | exact absurd h.1 (by decide) | skip
                exact .inr (.inr (.inr ⟨rfl, by omega, by omega, by omega, by omega, h.2.2.2.2.1, h.2.2.2.2.2.1, ⟨_, _, rfl, by omega, by omega, by omega⟩, ⟨o, 0, by simp only [Value.slice.injEq, true_and, and_true]; omega, by omega, by omega, by omega⟩⟩))
              · exact heap_setCell_same _ _ _ _ _ _ HH.out.1
              · repeat (first | exact HH.out.2 | exact HH.out.2.drew | refine Below.setCell ?_ (by first | (simp; done) | (simp; omega)) _ | refine Below.drew ?_)
            case measure => simp [intOf]
          · go_region
            go_wp2
            go_roundw
            case rel =>
              refine ⟨3, 3, a0, a1, some ⟨b, o, none⟩, n0, n1, Z, q0, q1, c, _, rfl, by omega, rfl, rfl, ?_, hideP ⟨?_, ?_⟩⟩
              · rcases HC.out with h | h | h | h <;> first | exact absurd h.1 (by decide) | skip
                exact .inr (.inr (.inr ⟨rfl, by omega, by omega, by omega, by omega, h.2.2.2.2.1, h.2.2.2.2.2.1, ⟨_, _, rfl, by omega, by omega, by omega⟩, ⟨o + Z * 6, c - Z, by simp only [Value.slice.injEq, true_and, and_true]; omega, by omega, by omega, by omega⟩⟩))
              · exact heap_setCell_same _ _ _ _ _ _ HH.out.1
              · repeat (first | exact HH.out.2 | exact HH.out.2.drew | refine Below.setCell ?_ (by first | (simp; done) | (simp; omega)) _ | refine Below.drew ?_)
            case measure => simp [intOf]
      · obtain rfl : kI = 3 := by omega
        clear hkI hk
        have HC := hideP hcst
        have p0 : wr.cell? ⟨w.heap.size, 0, none⟩ = some (.slice a0 n0 q0) := by rw [cell_of_row wr _ _ _ 57 _ HH.out.1]; rfl
        have p1 : wr.cell? ⟨w.heap.size, 1, none⟩ = some (.slice a1 n1 q1) := by rw [cell_of_row wr _ _ _ 57 _ HH.out.1]; rfl
        have p2 : wr.cell? ⟨w.heap.size, 2, none⟩ = some (.slice a2 n2 q2) := by rw [cell_of_row wr _ _ _ 57 _ HH.out.1]; rfl
        have f0 : ∀ j, wr.frozen? ⟨w.heap.size, j, none⟩ = false := fun j => frozen_of_row wr _ j _ 57 HH.out.1
        clear hcst
        go_wp2
        refine bodyPost_ret (v := .tuple #[.agg #[.slice a0 n0 q0, .slice a1 n1 q1, .slice a2 n2 q2], be, .bool true]) (by simp [results, Try.results35, go_sem, p0, p1, p2]) rfl ?_
        rw [HPP.out]
        refine ⟨.inl ⟨_, _, _, _, rfl, o0, HO.out, by rw [← HM.out]; exact HC.out⟩, ?_⟩
        repeat (first | exact HH.out.2 | exact HH.out.2.drew | refine Below.setCell ?_ (by first | (simp; done) | (simp; omega)) _)
end Go.Proofs.Ytfcfihlkckdmbaa
