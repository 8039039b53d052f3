/-
 Proved: for every table laws.FnExactSetTable returns true and its argument reads behind the call as before it; no condition.
-/
import Derived.Test.YtojoehdmjkgnnaaGreatSsc
import Derived.Test.YtojoehdmjkgnnaaGreatQtc
import Derived.Test.YtojoehdmjkgnnaaGreatTmp
import Derived.Test.YtojoehdmjkgnnaaGreatTeq
import Derived.Test.YtojoehdmjkgnnaaGreatMkc
import Derived.Deep.RegionHeld3
import Derived.Test.YtojoehdmjkgnnaaGreatFit
import Derived.Deep.Slices
namespace Go.Proofs.YtojoehdmjkgnnaaGreat
open Go.RowKit
set_option linter.unusedVariables false
set_option linter.unusedSimpArgs false
set_option maxRecDepth 20000 in
set_option maxHeartbeats 16000000 in
theorem lawSetTable_any (x : Tb) {v : Value} {w : World} (h : RRow 0 w v x.rs) (hf : FnT x) :
 Calls Tryz.prog 7 #[tbV x v] w fun e w' => e = .returned (.bool true) ∧ Below w.heap.size w w' := by
 obtain ⟨va, vn, vc, rfl⟩ : ∃ a n c, v = .slice a n c := by obtain ⟨a, c, rfl⟩ := h.shape; exact ⟨_, _, _, rfl⟩
 obtain ⟨R, hR⟩ := exq (stR x)
 have hRl : R.length ≤ 20000 := by rw [hR]; exact stR_len x
 obtain ⟨n, hn⟩ := exq (R.length)
 obtain ⟨s, hs⟩ := exq (1 + 15 * n)
 obtain ⟨S1, hS1⟩ : ∃ S1 : Nat → World → Option Addr → Nat → Prop, S1 = fun B W a c => W.ownsRow B 36 15 (.slice a n c) n (flatN R) := ⟨_, rfl⟩
 obtain ⟨S2, hS2⟩ : ∃ S2 : Nat → World → Option Addr → Nat → Prop, S2 = fun B W a c => W.ownsRow B 36 15 (.slice a n c) n (flatN (marksN 1 n)) := ⟨_, rfl⟩
 have CZ : Hid (∀ W, Below w.heap.size w W → Calls Tryz.prog 23 #[tbV x (.slice va vn vc), .int .i64 1048576] W fun r w' => (∃ m : Int, r = .returned (.int .i64 m) ∧ (0 ≤ m → 15 * m + mkK x.rs x.rs.length ≤ 15 * 1048576 ∧ SmT x)) ∧ Below W.heap.size W w') := hideP (fun W hW => szTable_w x (h.below rwStable hW) hf (by omega) (by omega))
 have CT : Hid (SmT x → ∀ W, Below w.heap.size w W → Calls Tryz.prog 25 #[tbV x (.slice va vn vc)] W fun e w' => ∃ a n c, e = .returned (tbV x (.slice a n c)) ∧ ROw W.heap.size w' (.slice a n c) x.rs ∧ Below W.heap.size W w') := hideP (fun hs W hW => (toTable_o x (h.below rwStable hW) hs).mono (fun e w' ⟨v', h1, h2, h3⟩ => by
  obtain ⟨a, c, rfl⟩ := h2.shape
  exact ⟨a, _, c, h1, h2, h3⟩))
 have CS : Hid (SmT x → ∀ u W, RRowN 0 W u x.rs → Calls Tryz.prog 35 #[tbV x u] W fun e w' => ∃ a c, e = .returned (.slice a n c) ∧ S1 W.heap.size w' a c ∧ Below W.heap.size W w') := hideP (fun hs u W hu => by
  refine (specSetTable_any x hu hs).mono (fun e w' ⟨a, c, h1, h2, h3⟩ => ?_)
  rw [← hR, ← hn] at h1 h2
  exact ⟨a, c, h1, by rw [hS1]; exact h2, h3⟩)
 have CI : Hid (SmT x → ∀ u W, RRowN 0 W u x.rs → Calls Tryz.prog 20 #[tbV x u] W fun e w' => ∃ a c, e = .returned (.slice a n c) ∧ S1 W.heap.size w' a c ∧ Below W.heap.size W w') := hideP (fun hs u W hu => by
  refine (implSetTable_any x hu hs).mono (fun e w' ⟨a, c, h1, h2, h3⟩ => ?_)
  rw [← hR, ← hn] at h1 h2
  exact ⟨a, c, h1, by rw [hS1]; exact h2, h3⟩)
 have CE : Hid (SmT x → ∀ u u' W, RRowN 0 W u x.rs → RRowN 0 W u' x.rs → Calls Tryz.prog 29 #[tbV x u, tbV x u'] W fun e w' => e = .returned (.bool true) ∧ Below W.heap.size W w') := hideP (fun hs u u' W h1 h2 => eqTable_same x h1 h2 hs)
 have CM : Hid (SmT x → 1 + mkK x.rs x.rs.length ≤ 16777216 → ∀ P u W, RShP P W u x.rs → Calls Tryz.prog 31 #[tbV x u, .int .i64 1] W fun e w' => e = .returned (.int .i64 ((1 + mkK x.rs x.rs.length : Nat) : Int)) ∧ MkP P W w') := hideP (fun hs hk P u W hu => markTable_P (k := 1) x hu hs (by omega) hk)
 have CQ : Hid (∀ B a c B' a' c' (W : World), S1 B W a c → S1 B' W a' c' → Calls Tryz.prog 28 #[.slice a n c, .slice a' n c'] W fun e w' => e = .returned (.bool true) ∧ Below W.heap.size W w') := hideP (fun B a c B' a' c' W h1 h2 => by
  rw [hS1] at h1 h2
  exact eqNodeS_same (SRow.mono ndStable (own_NRow h1 hn.symm) (Nat.zero_le _)) (SRow.mono ndStable (own_NRow h2 hn.symm) (Nat.zero_le _)) (by omega))
 have CMI : Hid (∀ B a c (W : World), S1 B W a c → B ≤ W.heap.size → Calls Tryz.prog 33 #[.slice a n c, .int .i64 1] W fun e w' => e = .returned (.int .i64 (s : Int)) ∧ S2 B w' a c ∧ Below B W w') := hideP (fun B a c W h1 hB => by
  rw [hS1] at h1
  refine (mark_own (k := 1) h1 (by omega) (by omega) (by omega)).mono ?_
  rintro e w' ⟨e1, e2, e3, _⟩
  rw [hS2, hs]
  rw [Nat.min_eq_left hB] at e3
  exact ⟨e1, e2, e3⟩)
 have CH : Hid (∀ B a c (W : World), S2 B W a c → Calls Tryz.prog 34 #[.slice a n c, .int .i64 1] W fun e w' => e = .returned (.int .i64 (s : Int)) ∧ Below W.heap.size W w') := hideP (fun B a c W h1 => by
  rw [hS2] at h1
  rw [hs]
  exact heldNodeS_any (k := 1) (SRow.mono ndStable (own_NRow h1 (marksN_len 1 n)) (Nat.zero_le _)) (by omega) (by omega) (by omega))
 have SB : Hid (∀ B a c (W W' : World), S1 B W a c → Below W.heap.size W W' → S1 B W' a c) := hideP (fun B a c W W' h1 hb => by rw [hS1] at h1 ⊢; exact ownG_below h1 hb)
 have SB2 : Hid (∀ B a c (W W' : World), S2 B W a c → Below W.heap.size W W' → S2 B W' a c) := hideP (fun B a c W W' h1 hb => by rw [hS2] at h1 ⊢; exact ownG_below h1 hb)
 have SX : Hid (∀ B a c (W : World), S1 B W a c → ∀ b, (Value.slice a n c).ownBlock = some b → B ≤ b ∧ b < W.heap.size) := hideP (fun B a c W h1 b hb => by rw [hS1] at h1; exact h1.lt b hb)
 have SF : Hid (∀ P B a c (W W' : World), S1 B W a c → Frs P W W' → (∀ b, (Value.slice a n c).ownBlock = some b → ¬ P b) → S1 B W' a c) := hideP (fun P B a c W W' h1 hb hP => by rw [hS1] at h1 ⊢; exact ownG_same h1 (fun b hbb => hb.block b (h1.lt b hbb).2 (hP b hbb)))
 have hng : ¬ (s : Int) < 0 := by omega
 have hn2 : n ≤ 20000 := by rw [hn]; exact hRl
 obtain ⟨SM, hSM⟩ : ∃ SM : Prop, SM = SmT x := ⟨_, rfl⟩
 rw [← hSM] at CZ CT CS CI CE CM
 obtain ⟨RN, hRN⟩ : ∃ RN : World → Value → Prop, RN = fun W u => RRowN 0 W u x.rs := ⟨_, rfl⟩
 obtain ⟨RO, hRO⟩ : ∃ RO : Nat → World → Value → Prop, RO = fun lo W u => ROw lo W u x.rs := ⟨_, rfl⟩
 obtain ⟨RP, hRP⟩ : ∃ RP : (Nat → Prop) → World → Value → Prop, RP = fun P W u => RShP P W u x.rs := ⟨_, rfl⟩
 obtain ⟨mk, hmk⟩ := exq (mkK x.rs x.rs.length)
 rw [← hmk] at CZ CM
 have CT2 : Hid (SM → ∀ W, Below w.heap.size w W → Calls Tryz.prog 25 #[tbV x (.slice va vn vc)] W fun e w' => ∃ a n c, e = .returned (tbV x (.slice a n c)) ∧ RO W.heap.size w' (.slice a n c) ∧ Below W.heap.size W w') := by rw [hRO]; exact CT
 have CS2 : Hid (SM → ∀ u W, RN W u → Calls Tryz.prog 35 #[tbV x u] W fun e w' => ∃ a c, e = .returned (.slice a n c) ∧ S1 W.heap.size w' a c ∧ Below W.heap.size W w') := by rw [hRN]; exact CS
 have CI2 : Hid (SM → ∀ u W, RN W u → Calls Tryz.prog 20 #[tbV x u] W fun e w' => ∃ a c, e = .returned (.slice a n c) ∧ S1 W.heap.size w' a c ∧ Below W.heap.size W w') := by rw [hRN]; exact CI
 have CE2 : Hid (SM → ∀ u u' W, RN W u → RN W u' → Calls Tryz.prog 29 #[tbV x u, tbV x u'] W fun e w' => e = .returned (.bool true) ∧ Below W.heap.size W w') := by rw [hRN]; exact CE
 have CM2 : Hid (SM → 1 + mk ≤ 16777216 → ∀ P u W, RP P W u → Calls Tryz.prog 31 #[tbV x u, .int .i64 1] W fun e w' => e = .returned (.int .i64 ((1 + mk : Nat) : Int)) ∧ MkP P W w') := by rw [hRP]; exact CM
 have RB : Hid (∀ lo u W W', RO lo W u → Below W.heap.size W W' → RO lo W' u) := hideP (by rw [hRO]; exact fun lo u W W' h hb => ROw.abv h (Abv.below hb))
 have RR : Hid (∀ lo u W, RO lo W u → RN W u) := hideP (by rw [hRO, hRN]; exact fun lo u W h => (ROw.row h).mono rwNStable (Nat.zero_le _))
 have RT : Hid (∀ P lo u W, (∀ g, lo ≤ g → g < W.heap.size → P g) → RO lo W u → RP P W u) := hideP (by rw [hRO, hRP]; exact fun P lo u W hP h => ROw.shP hP h)
 have RPB : Hid (∀ P u W W', RP P W u → Below W.heap.size W W' → RP P W' u) := hideP (by rw [hRP]; exact fun P u W W' h hb => RShP.mk h (MkP.below hb))
 clear h hf hR CT CS CI CE CM hSM hRN hRO hRP hRl hn hmk hS1 hS2 hs
 obtain ⟨co, gs, gp, gpo, gm, gmo, rs⟩ := x
 simp only [tbV] at CZ CT2 CS2 CI2 CE2 CM2 ⊢
 go_enter Tryz.func7, Tryz.ntmps7
 go_wp2_with fail
 refine (CZ.out _ (below1 _ _)).mono ?_
 rintro e w1 ⟨⟨mz, rfl, hmz⟩, hb1⟩
 have B1 : Hid (Below w.heap.size w w1) := hideP (below_more (below1 _ _) hb1 (by simp))
 have P1 : Hid (w1.heap[w.heap.size]? = some (.cells #[.int .i64 co, .int .i64 gs, .int .i64 gp, .int .i64 gpo, .int .i64 gm, .int .i64 gmo, .slice va vn vc] 64 (0, 0))) := hideP ((hb1.block _ (by simp)).trans (heap_alloc_new w _))
 have HM := hideP hmz
 clear hb1 hmz
 by_cases hneg : mz < 0
 ·go_wp2
  go_ret
  exact ⟨rfl, B1.out⟩
 ·have HS : Hid SM := hideP (HM.out (by omega)).2
  have HMK : Hid (1 + mk ≤ 16777216) := hideP (by have := (HM.out (by omega)).1; omega)
  clear HM CZ
  have QX : Hid (∀ X : World, X.heap[w.heap.size]? = some (.cells #[.int .i64 co, .int .i64 gs, .int .i64 gp, .int .i64 gpo, .int .i64 gm, .int .i64 gmo, .slice va vn vc] 64 (0, 0)) → w.heap.size < X.heap.size ∧ X.cell? ⟨w.heap.size, 0, none⟩ = some (.int .i64 co) ∧ X.cell? ⟨w.heap.size, 1, none⟩ = some (.int .i64 gs) ∧ X.cell? ⟨w.heap.size, 2, none⟩ = some (.int .i64 gp) ∧ X.cell? ⟨w.heap.size, 3, none⟩ = some (.int .i64 gpo) ∧ X.cell? ⟨w.heap.size, 4, none⟩ = some (.int .i64 gm) ∧ X.cell? ⟨w.heap.size, 5, none⟩ = some (.int .i64 gmo) ∧ X.cell? ⟨w.heap.size, 6, none⟩ = some (.slice va vn vc)) := hideP (fun X hX => ⟨(glt hX), cell_of_row _ _ 0 _ 64 _ hX, cell_of_row _ _ 1 _ 64 _ hX, cell_of_row _ _ 2 _ 64 _ hX, cell_of_row _ _ 3 _ 64 _ hX, cell_of_row _ _ 4 _ 64 _ hX, cell_of_row _ _ 5 _ 64 _ hX, cell_of_row _ _ 6 _ 64 _ hX⟩)
  obtain ⟨l1, c0, c1, c2, c3, c4, c5, c6⟩ := QX.out _ P1.out
  go_wp2_with fail
  refine (CT2.out HS.out _ B1.out).mono ?_
  rintro e w2 ⟨a2, n2, d2, rfl, hr2, hb2⟩
  have B2 : Hid (Below w.heap.size w w2) := hideP (below_more B1.out hb2 B1.out.size)
  have P2 := hideP ((hb2.block _ (glt P1.out)).trans P1.out)
  have R2 := hideP hr2
  clear hb2 hr2 l1 c0 c1 c2 c3 c4 c5 c6 P1
  go_wp2_with fail
  refine (CS2.out HS.out _ _ (RR.out _ _ _ R2.out)).mono ?_
  rintro e w3 ⟨a0, d0, rfl, hi3, hb3⟩
  have B3 : Hid (Below w.heap.size w w3) := hideP (below_more B2.out hb3 B2.out.size)
  have P3 := hideP ((hb3.block _ (glt P2.out)).trans P2.out)
  obtain ⟨b0, hb0⟩ := exq (w2.heap.size)
  rw [← hb0] at hi3
  have I3 := hideP hi3
  clear hb3 R2 P2 hi3 hb0 B2
  obtain ⟨l1, c0, c1, c2, c3, c4, c5, c6⟩ := QX.out _ P3.out
  have hwl : w.heap.size < w3.heap.size := l1
  go_wp2_with fail
  refine (CT2.out HS.out _ B3.out).mono ?_
  rintro e w4 ⟨a4, n4, d4, rfl, hr4, hb4⟩
  have B4 : Hid (Below w.heap.size w w4) := hideP (below_more B3.out hb4 B3.out.size)
  have P4 := hideP ((hb4.block _ (glt P3.out)).trans P3.out)
  have I4 := hideP (SB.out _ _ _ _ _ I3.out hb4)
  have R4 := hideP hr4
  obtain ⟨lo, hlo2⟩ := exq (w3.heap.size)
  rw [← hlo2] at R4
  obtain ⟨hi, hhi⟩ := exq (w4.heap.size)
  obtain ⟨PP, hPP⟩ : ∃ PP : Nat → Prop, PP = fun b => lo ≤ b ∧ b < hi := ⟨_, rfl⟩
  have RQ4 : Hid (RP PP w4 (.slice a4 n4 d4)) := hideP (RT.out PP lo _ _ (fun g h1 h2 => by rw [hPP]; exact ⟨by omega, by omega⟩) R4.out)
  have ILO : Hid (∀ b, (Value.slice a0 n d0).ownBlock = some b → ¬ PP b) := hideP (fun b hb => by rw [hPP]; have := (SX.out _ _ _ _ I3.out b hb).2; omega)
  have PLO : Hid (¬ PP w.heap.size) := hideP (by rw [hPP]; omega)
  have PHI : Hid (∀ b, hi ≤ b → ¬ PP b) := hideP (fun b hb => by rw [hPP]; omega)
  have PBE : Hid (∀ b, PP b → w.heap.size ≤ b) := hideP (fun b hb => by rw [hPP] at hb; omega)
  have hhl : hi ≤ w4.heap.size := by omega
  have hwlo : w.heap.size ≤ lo := by omega
  clear hb4 hr4 l1 c0 c1 c2 c3 c4 c5 c6 P3 I3 hlo2 hPP hwl RT B3 hhi
  go_wp2_with fail
  obtain ⟨W4, hW4⟩ := exq (w4.alloc (.cells #[.int .i64 co, .int .i64 gs, .int .i64 gp, .int .i64 gpo, .int .i64 gm, .int .i64 gmo, .slice a4 n4 d4] 44))
  rw [← hW4]
  obtain ⟨p5, hp5⟩ := exq (w4.heap.size)
  rw [← hp5]
  have BW4 : Hid (Below w.heap.size w W4) := hideP (by rw [hW4]; exact B4.out.alloc B4.out.size _)
  have PW4 : Hid (W4.heap[w.heap.size]? = some (.cells #[.int .i64 co, .int .i64 gs, .int .i64 gp, .int .i64 gpo, .int .i64 gm, .int .i64 gmo, .slice va vn vc] 64 (0, 0))) := hideP (by rw [hW4]; exact (Below.heap_alloc _ _ _ (glt P4.out)).trans P4.out)
  have XW4 : Hid (W4.heap[p5]? = some (.cells #[.int .i64 co, .int .i64 gs, .int .i64 gp, .int .i64 gpo, .int .i64 gm, .int .i64 gmo, .slice a4 n4 d4] 44 (0, 0))) := hideP (by rw [hW4, hp5]; exact heap_alloc_new w4 _)
  have RW4 : Hid (RO lo W4 (.slice a4 n4 d4)) := hideP (by rw [hW4]; exact RB.out _ _ _ _ R4.out (below1 _ _))
  have RQW4 : Hid (RP PP W4 (.slice a4 n4 d4)) := hideP (by rw [hW4]; exact RPB.out _ _ _ _ RQ4.out (below1 _ _))
  have IW4 : Hid (S1 b0 W4 a0 d0) := hideP (by rw [hW4]; exact SB.out _ _ _ _ _ I4.out (below1 _ _))
  have hhl4 : hi ≤ W4.heap.size := by rw [hW4]; simp; omega
  clear hW4 hp5 P4 R4 RQ4 B4 I4 hhl
  refine (CI2.out HS.out _ _ (RR.out _ _ _ RW4.out)).mono ?_
  rintro e w5 ⟨a6, d6, rfl, ho5, hb5⟩
  have B5 : Hid (Below w.heap.size w w5) := hideP (below_more BW4.out hb5 BW4.out.size)
  have P5 := hideP ((hb5.block _ (glt PW4.out)).trans PW4.out)
  have X5 := hideP ((hb5.block _ (glt XW4.out)).trans XW4.out)
  have R5 := hideP (RB.out _ _ _ _ RW4.out hb5)
  have RQ5 := hideP (RPB.out _ _ _ _ RQW4.out hb5)
  have I5 := hideP (SB.out _ _ _ _ _ IW4.out hb5)
  have hg5 : W4.heap.size ≤ w5.heap.size := hb5.size
  have hs6 : w.heap.size < W4.heap.size := (glt PW4.out)
  have ILT : Hid (∀ b, (Value.slice a0 n d0).ownBlock = some b → b < W4.heap.size) := hideP (fun b hb => (SX.out _ _ _ _ IW4.out b hb).2)
  have IBL : Hid (∀ W W', S1 b0 W a0 d0 → Below W4.heap.size W W' → S1 b0 W' a0 d0) := hideP (fun W W' h1 h2 => SF.out (fun b => W4.heap.size ≤ b) _ _ _ _ _ h1 ⟨h2.os, h2.tape, h2.output, h2.size, fun b _ hb => h2.block b (by omega)⟩ (fun b hb => by have := ILT.out b hb; omega))
  obtain ⟨b6, hb6e⟩ := exq (W4.heap.size)
  rw [← hb6e] at ho5 hg5 hs6 IBL hhl4
  have O5 := hideP ho5
  clear hb5 BW4 PW4 XW4 RW4 RQW4 IW4 ho5 hb6e ILT
  go_wp2_with fail
  refine (CQ.out _ _ _ _ _ _ _ O5.out I5.out).mono ?_
  rintro e w6 ⟨rfl, hb6⟩
  have B6 : Hid (Below w.heap.size w w6) := hideP (below_more B5.out hb6 B5.out.size)
  have P6 := hideP ((hb6.block _ (glt P5.out)).trans P5.out)
  have X6 := hideP ((hb6.block _ (glt X5.out)).trans X5.out)
  have R6 := hideP (RB.out _ _ _ _ R5.out hb6)
  have RQ6 := hideP (RPB.out _ _ _ _ RQ5.out hb6)
  have I6 := hideP (SB.out _ _ _ _ _ I5.out hb6)
  have O6 := hideP (SB.out _ _ _ _ _ O5.out hb6)
  have hg6 : b6 ≤ w6.heap.size := Nat.le_trans hg5 hb6.size
  clear hb6 B5 P5 X5 R5 RQ5 I5 O5 hg5
  have Q : Hid (∀ x : World, Below w6.heap.size w6 x → (x.cell? ⟨w.heap.size, 0, none⟩ = some (.int .i64 co) ∧ x.cell? ⟨w.heap.size, 1, none⟩ = some (.int .i64 gs) ∧ x.cell? ⟨w.heap.size, 2, none⟩ = some (.int .i64 gp) ∧ x.cell? ⟨w.heap.size, 3, none⟩ = some (.int .i64 gpo) ∧ x.cell? ⟨w.heap.size, 4, none⟩ = some (.int .i64 gm) ∧ x.cell? ⟨w.heap.size, 5, none⟩ = some (.int .i64 gmo) ∧ x.cell? ⟨w.heap.size, 6, none⟩ = some (.slice va vn vc)) ∧ x.cell? ⟨p5, 0, none⟩ = some (.int .i64 co) ∧ x.cell? ⟨p5, 1, none⟩ = some (.int .i64 gs) ∧ x.cell? ⟨p5, 2, none⟩ = some (.int .i64 gp) ∧ x.cell? ⟨p5, 3, none⟩ = some (.int .i64 gpo) ∧ x.cell? ⟨p5, 4, none⟩ = some (.int .i64 gm) ∧ x.cell? ⟨p5, 5, none⟩ = some (.int .i64 gmo) ∧ x.cell? ⟨p5, 6, none⟩ = some (.slice a4 n4 d4)) := hideP (fun x hx => by
   have h1 := (hx.block _ (glt P6.out)).trans P6.out
   have h2 := (hx.block _ (glt X6.out)).trans X6.out
   exact ⟨(QX.out _ h1).2, cell_of_row _ _ 0 _ 44 _ h2, cell_of_row _ _ 1 _ 44 _ h2, cell_of_row _ _ 2 _ 44 _ h2, cell_of_row _ _ 3 _ 44 _ h2, cell_of_row _ _ 4 _ 44 _ h2, cell_of_row _ _ 5 _ 44 _ h2, cell_of_row _ _ 6 _ 44 _ h2⟩)
  have BD : Hid (Below w6.heap.size w6 w6.drew) := hideP ((Below.refl _ _).drew)
  go_wp2_with fail
  go_region_held3 (fun x => (x.cell? ⟨w.heap.size, 0, none⟩ = some (.int .i64 co) ∧ x.cell? ⟨w.heap.size, 1, none⟩ = some (.int .i64 gs) ∧ x.cell? ⟨w.heap.size, 2, none⟩ = some (.int .i64 gp) ∧ x.cell? ⟨w.heap.size, 3, none⟩ = some (.int .i64 gpo) ∧ x.cell? ⟨w.heap.size, 4, none⟩ = some (.int .i64 gm) ∧ x.cell? ⟨w.heap.size, 5, none⟩ = some (.int .i64 gmo) ∧ x.cell? ⟨w.heap.size, 6, none⟩ = some (.slice va vn vc)) ∧ x.cell? ⟨p5, 0, none⟩ = some (.int .i64 co) ∧ x.cell? ⟨p5, 1, none⟩ = some (.int .i64 gs) ∧ x.cell? ⟨p5, 2, none⟩ = some (.int .i64 gp) ∧ x.cell? ⟨p5, 3, none⟩ = some (.int .i64 gpo) ∧ x.cell? ⟨p5, 4, none⟩ = some (.int .i64 gm) ∧ x.cell? ⟨p5, 5, none⟩ = some (.int .i64 gmo) ∧ x.cell? ⟨p5, 6, none⟩ = some (.slice a4 n4 d4)) (first | exact Q.out _ BD.out | exact Q.out _ ‹Hid (Below w6.heap.size w6 _)›) (first | (go_at_call 25; refine (CT2.out HS.out _ (below_more B6.out BD.out B6.out.size)).mono ?_; rintro e w7 ⟨a7, n7, d7, rfl, hr7, hb7⟩; have B67 : Hid (Below w6.heap.size w6 w7) := hideP (below_more BD.out hb7 BD.out.size); have R7 := hideP (RR.out _ _ _ hr7); clear hb7 hr7) | (go_at_call 29; refine (CE2.out HS.out _ _ _ (RR.out _ _ _ (RB.out _ _ _ _ R6.out B67.out)) R7.out).mono ?_; rintro e w8 ⟨rfl, hb8⟩; have B8 : Hid (Below w6.heap.size w6 w8) := hideP (below_more B67.out hb8 B67.out.size); clear hb8))
  all_goals
   have B08 : Hid (Below w.heap.size w w8) := hideP (below_more B6.out B8.out B6.out.size)
   have P8 := hideP ((B8.out.block _ (glt P6.out)).trans P6.out)
   have X8 := hideP ((B8.out.block _ (glt X6.out)).trans X6.out)
   have RQ8 := hideP (RPB.out _ _ _ _ RQ6.out B8.out)
   have I8 := hideP (SB.out _ _ _ _ _ I6.out B8.out)
   have O8 := hideP (SB.out _ _ _ _ _ O6.out B8.out)
   have hg8 : b6 ≤ w8.heap.size := Nat.le_trans hg6 B8.out.size
   clear B6 P6 X6 R6 RQ6 I6 O6 Q BD B8 hg6
   have z0 : w8.cell? ⟨p5, 0, none⟩ = some (.int .i64 co) := cell_of_row _ _ 0 _ 44 _ X8.out
   have z1 : w8.cell? ⟨p5, 1, none⟩ = some (.int .i64 gs) := cell_of_row _ _ 1 _ 44 _ X8.out
   have z2 : w8.cell? ⟨p5, 2, none⟩ = some (.int .i64 gp) := cell_of_row _ _ 2 _ 44 _ X8.out
   have z3 : w8.cell? ⟨p5, 3, none⟩ = some (.int .i64 gpo) := cell_of_row _ _ 3 _ 44 _ X8.out
   have z4 : w8.cell? ⟨p5, 4, none⟩ = some (.int .i64 gm) := cell_of_row _ _ 4 _ 44 _ X8.out
   have z5 : w8.cell? ⟨p5, 5, none⟩ = some (.int .i64 gmo) := cell_of_row _ _ 5 _ 44 _ X8.out
   have z6 : w8.cell? ⟨p5, 6, none⟩ = some (.slice a4 n4 d4) := cell_of_row _ _ 6 _ 44 _ X8.out
   have hp8 : p5 < w8.heap.size := (glt X8.out)
   go_wp2_with fail
   refine (CM2.out HS.out HMK.out _ _ _ RQ8.out).mono ?_
   rintro e w9 ⟨rfl, hm9⟩
   have F9 := hideP hm9.bel
   have B9 : Hid (Below w.heap.size w w9) := hideP (Frs.toBelow B08.out hm9.bel PBE.out B08.out.size)
   have P9 := hideP ((hm9.bel.block _ (glt P8.out) PLO.out).trans P8.out)
   have I9 := hideP (SF.out _ _ _ _ _ _ I8.out hm9.bel ILO.out)
   have O9 := hideP (SF.out _ _ _ _ _ _ O8.out hm9.bel (fun b hb => PHI.out b (by have := (SX.out _ _ _ _ O8.out b hb).1; omega)))
   have hg9 : b6 ≤ w9.heap.size := Nat.le_trans hg8 hm9.bel.size
   obtain ⟨s9, hs9⟩ := exq (1 + mk)
   rw [← hs9]
   have hneg9 : ¬ (s9 : Int) < 0 := by omega
   have hdec9 : decide ((s9 : Int) < 0) = false := decide_eq_false hneg9
   clear hm9 z0 z1 z2 z3 z4 z5 z6 hp8 X8 RQ8 P8 I8 O8 B08 hs9 hg8 F9
   go_wp2_with fail
   refine (CQ.out _ _ _ _ _ _ _ O9.out I9.out).mono ?_
   rintro e w10 ⟨rfl, hb10⟩
   have B10 : Hid (Below w.heap.size w w10) := hideP (below_more B9.out hb10 B9.out.size)
   have P10 := hideP ((hb10.block _ (glt P9.out)).trans P9.out)
   have I10 := hideP (SB.out _ _ _ _ _ I9.out hb10)
   have O10 := hideP (SB.out _ _ _ _ _ O9.out hb10)
   have hg10 : b6 ≤ w10.heap.size := Nat.le_trans hg9 hb10.size
   clear hb10 B9 P9 I9 O9 hg9
   go_wp2_with fail
   refine (CMI.out _ _ _ _ O10.out hg10).mono ?_
   rintro e w11 ⟨rfl, ho11, hbg⟩
   have B11 : Hid (Below w.heap.size w w11) := hideP (B10.out.trans (hbg.mono (Nat.le_of_lt hs6)))
   have P11 := hideP ((hbg.block _ hs6).trans P10.out)
   have I11 := hideP (IBL.out _ _ I10.out hbg)
   have O11 := hideP ho11
   clear ho11 hbg B10 P10 I10 O10 hg10
   go_wp2_with fail
   refine (CH.out _ _ _ _ O11.out).mono ?_
   rintro e w12 ⟨rfl, hb12⟩
   have B12 : Hid (Below w.heap.size w w12) := hideP (below_more B11.out hb12 B11.out.size)
   have P12 := hideP ((hb12.block _ (glt P11.out)).trans P11.out)
   have I12 := hideP (SB.out _ _ _ _ _ I11.out hb12)
   have O12 := hideP (SB2.out _ _ _ _ _ O11.out hb12)
   clear hb12 B11 P11 I11 O11
   obtain ⟨l1, c0, c1, c2, c3, c4, c5, c6⟩ := QX.out _ P12.out
   go_wp2_with fail
   refine (CT2.out HS.out _ B12.out).mono ?_
   rintro e w13 ⟨a13, n13, d13, rfl, hr13, hb13⟩
   have B13 : Hid (Below w.heap.size w w13) := hideP (below_more B12.out hb13 B12.out.size)
   have I13 := hideP (SB.out _ _ _ _ _ I12.out hb13)
   have O13 := hideP (SB2.out _ _ _ _ _ O12.out hb13)
   have R13 := hideP hr13
   clear hb13 hr13 l1 c0 c1 c2 c3 c4 c5 c6 P12 B12 I12 O12
   go_wp2_with fail
   refine (CI2.out HS.out _ _ (RR.out _ _ _ R13.out)).mono ?_
   rintro e w14 ⟨a14, d14, rfl, ho14, hb14⟩
   have B14 : Hid (Below w.heap.size w w14) := hideP (below_more B13.out hb14 B13.out.size)
   have I14 := hideP (SB.out _ _ _ _ _ I13.out hb14)
   have O14 := hideP (SB2.out _ _ _ _ _ O13.out hb14)
   have N14 := hideP ho14
   clear hb14 ho14 B13 I13 O13 R13
   go_wp2_with fail
   refine (CQ.out _ _ _ _ _ _ _ N14.out I14.out).mono ?_
   rintro e w15 ⟨rfl, hb15⟩
   have B15 : Hid (Below w.heap.size w w15) := hideP (below_more B14.out hb15 B14.out.size)
   have O15 := hideP (SB2.out _ _ _ _ _ O14.out hb15)
   clear hb15 B14 I14 O14 N14
   go_wp2_with fail
   refine (CH.out _ _ _ _ O15.out).mono ?_
   rintro e w16 ⟨rfl, hb16⟩
   have B16 : Hid (Below w.heap.size w w16) := hideP (below_more B15.out hb16 B15.out.size)
   clear hb16
   go_wp2
   go_ret
   exact ⟨rfl, B16.out⟩
end Go.Proofs.YtojoehdmjkgnnaaGreat
namespace Go.Proofs.YtojoehdmjkgnnaaGreat
open Go.ChangeShapes Go.WideShapes Go.ChangeAt Go.RowKit Go.Joins
set_option linter.unusedVariables false
set_option linter.unusedSimpArgs false
set_option maxRecDepth 100000 in
theorem setTable_lifted (os : Os) (started : os.Started) (H : Type) (enc : TypeId × Value → H) :
 ReturnsInHanded {} Tryz.checked os 7 .any (Rows.fnExactSetTableSpec.pre6 enc Tryz.prog Tryz.f7 Rows.fnExactSetTableRow.domain false) (Rows.fnExactSetTableSpec.post enc Tryz.prog Tryz.f7 false true false false) := by
 refine returnsInHanded_of_change (C := Tryz.checked) ownT started (by kernel_rfl) Tryz.func7
  (ChangeSpec.witness6 (enc := enc) (C := Tryz.checked) false ⟨#[], #[.agg #[.int .i64 0, .int .i64 0, .int .i64 0, .int .i64 0, .int .i64 0, .int .i64 0, .slice none 0 0]], []⟩ 8 (by kernel_rfl) (by kernel_rfl) (by kernel_rfl) (by kernel_rfl)) ?_
 intro W base args ds gs before hval0 hW hcnd _
 have hval : ∀ (j : Nat) t v, Tryz.f7.params[j]? = some t → args[j]? = some v → Value.okWide Tryz.prog W .any base t v := hval0
 have hW' := hW
 obtain ⟨p, q, hA0, hV, rfl, hfz, hnd⟩ := hW
 have hA : DataW.TrodAll enc Tryz.prog W 0 (fun _ => true) true Tryz.f7.params.toList args.toList ds p := hA0
 rw [Tryz.params7] at hA hval
 obtain ⟨v0, vs0, d0, ds0, p0, q0, hargs, rfl, rfl, h0, r0⟩ := trodAll_cons hA
 obtain ⟨rfl, rfl, rfl⟩ := trodAll_nil r0
 obtain rfl : args = #[v0] := by cases args; simp_all
 obtain ⟨rfl, rfl⟩ := trodVars_none hV
 have k0 := h0
 have lt0 : ∀ x ∈ p0, x.block < W.heap.size := by obtain ⟨m, hm⟩ := k0; exact DataW.trod_lt m _ _ _ hm
 obtain ⟨t, u, rfl, hr, hF⟩ := openTable (hval 0 64 v0 rfl rfl) h0
 clear hA0 hval0
 refine (lawSetTable_any t hr hF).mono fun e W' ⟨he, bel⟩ => ?_
 subst he
 exact ⟨_, rfl, _, _, _, [], _, [], hW', trodAll_mk1 (shut_bool Tryz.underlying4 _), (trodAll_cons_mk (Below.trod laidOut (by kernel_rfl) (of_decide_eq_true (by kernel_rfl)) k0 bel lt0) trodAll_mk0), rfl, bel.frame _, fun h => by cases h⟩
theorem setTable_holds : Rows.FnExactSetTableSaid :=
 OpenClaim.holds_of_wide 7 Tryz.f7 rfl rfl rfl rfl rfl rfl rfl ⟨rfl, rfl, rfl, rfl, rfl⟩ rfl rfl rfl rfl rfl (by kernel_rfl) Tryz.func7 (by kernel_rfl)
  (of_decide_eq_true (by kernel_rfl)) (by unfold Func.isWrapper; first | (rw [if_pos (by decide +kernel)]; kernel_rfl) | (rw [if_neg (by decide +kernel)]; exact ⟨rfl, rfl⟩))
  (fun os started H enc _ => setTable_lifted os started H enc)
#print axioms setTable_holds
end Go.Proofs.YtojoehdmjkgnnaaGreat
