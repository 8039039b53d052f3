import Derived.Test.YtlohbaoigfaneaaGreatAit
import Derived.Test.YtlohbaoigfaneaaGreatAdl
namespace Go.Proofs.YtlohbaoigfaneaaGreat
open Go.RowKit
set_option linter.unusedVariables false
set_option linter.unusedSimpArgs false
def mTo (ys : List It) : Nat → List Int
 | 0 => [0, 0, 0, 0, 0, 0, 0, 0, 0]
 | i + 1 => mAd 0 (ys.getD i It.none).1 (mTo ys i)
theorem mAd_len (o : Nat) (x : Nd) (zs : List Int) : (mAd o x zs).length = zs.length := by
 unfold mAd glA
 split
 ·simp
 ·split <;> simp
theorem mTo_len (ys : List It) : ∀ i, (mTo ys i).length = 9
 | 0 => rfl
 | i + 1 => by rw [mTo, mAd_len, mTo_len ys i]
def flatM (ys : List It) : Nat → List Value
 | 0 => []
 | i + 1 => flatM ys i ++ (mTo ys i).map (Value.int .i64)
theorem flatM_succ (ys : List It) (i : Nat) : flatM ys (i + 1) = flatM ys i ++ (mTo ys i).map (Value.int .i64) := rfl
theorem nine {zs : List Int} (h : zs.length = 9) : zs.map (Value.int .i64) = [.int .i64 (zs.getD 0 0), .int .i64 (zs.getD 1 0), .int .i64 (zs.getD 2 0), .int .i64 (zs.getD 3 0), .int .i64 (zs.getD 4 0), .int .i64 (zs.getD 5 0), .int .i64 (zs.getD 6 0), .int .i64 (zs.getD 7 0), .int .i64 (zs.getD 8 0)] := by
 match zs, h with
 | [a, b, c, d, e, f, g, i, j], _ => rfl
set_option maxRecDepth 20000 in
set_option maxHeartbeats 8000000 in
theorem addItemsL_any {w : World} {PB : Nat} {z5 : Sy} {v : Value} {xs : List Nd} (hP : ParB w PB z5 v (.slice none 0 0) (.slice none 0 0) (.slice none 0 0)) (h : NRow 0 w v xs) (hcp : ∀ a n c, v = .slice a n c → n ≤ c ∧ c ≤ 9223372036854775807) (hok : AllOk3 xs) (hord : ∀ i, i < xs.length → Ord (xs.getD i Nd.none)) (hN : 0 < (its xs).length ∧ (its xs).length ≤ 5000) :
 Calls Tryz.prog 69 #[.pointer (some ⟨PB, 0, none⟩)] w fun e w' => (∃ v, e = .returned v) ∧ (∃ (B cap : Nat) (sv : Value), ParB w' PB z5 v (.slice (some ⟨B, 0, none⟩) (its xs).length cap) sv (.slice none 0 0) ∧ w'.ownsRow w.heap.size 186 3 (.slice (some ⟨B, 0, none⟩) (its xs).length cap) (its xs).length (flatI (its xs)) ∧ w'.ownsRow w.heap.size 116 9 sv (its xs).length (flatM (its xs) (its xs).length)) ∧ Fr PB w w' := by
 have IC : Hid (∀ W, Below w.heap.size w W → Calls Tryz.prog 89 #[v] W fun e W' => (∃ u, e = .returned u ∧ W'.ownsRow W.heap.size 186 3 u (its xs).length (flatI (its xs))) ∧ Below W.heap.size W W') := hideP (fun W hW => callsIn_wide.1 (itemsOf3_in (SRow.below ndStable h hW) hcp hok))
 obtain ⟨N, hN0⟩ : ∃ N, (its xs).length = N := ⟨_, rfl⟩
 simp only [hN0] at IC hN ⊢
 have HN := hideP hN0
 obtain ⟨hN1, hN2⟩ := hN
 have HOR : Hid (∀ k, k < N → Ord ((its xs).getD k It.none).1) := hideP (fun k hk => by
  obtain ⟨a, ha, he⟩ := its_get (xs := xs) (k := k) (by omega)
  rw [he]
  exact hord a ha)
 have HP := hideP hP
 have c23 := hP.c23
 have c24 := hP.c24
 have fz := hP.free
 have hPl := hP.lt
 obtain ⟨va, vn, vc, rfl, _⟩ := h
 obtain ⟨i0, hi0, hy0, hy1, hy2⟩ := info_parts Tryz.info145t
 clear hP hok hord hcp hN0
 go_enter Tryz.func69, Tryz.ntmps69
 go_wp2_with fail
 refine (IC.out _ (Below.refl _ _)).mono ?_
 rintro e w1 ⟨⟨u, rfl, hu⟩, hb1⟩
 obtain ⟨B, cap, rfl⟩ : ∃ B cap, u = .slice (some ⟨B, 0, none⟩) N cap := by
  rcases hu.2 with ⟨_, h0⟩ | ⟨g', cap', cur, hv, _⟩
  ·omega
  ·exact ⟨g', cap', hv⟩
 have P1 : Hid (ParB w1 PB z5 (.slice va vn vc) (.slice none 0 0) (.slice none 0 0) (.slice none 0 0)) := hideP (HP.out.keep (hb1.block PB hPl))
 have U1 := hideP hu
 have F1 : Hid (Fr PB w w1) := hideP ((Fr.refl PB w).below hb1)
 have hBP : Hid (PB < B ∧ B < w1.heap.size) := hideP ⟨by have := (World.ownsRow.lt hu B rfl).1; omega, (World.ownsRow.lt hu B rfl).2⟩
 have b24 := P1.out.c24
 have fz1 := P1.out.free
 have hP1l := P1.out.lt
 clear hb1 hu c23 c24 fz IC
 -- LOOP
 obtain ⟨T, hT⟩ : ∃ T, T = w1.heap.size := ⟨_, rfl⟩
 obtain ⟨W2, hW2⟩ : ∃ W2, W2 = (w1.setCell ⟨PB, 24, none⟩ (.slice (some ⟨B, 0, none⟩) N cap)).alloc (.cells #[.int .i64 0, .int .i64 0, .int .i64 0, .int .i64 0, .int .i64 0, .int .i64 0, .int .i64 0, .int .i64 0, .int .i64 0] 116) := ⟨_, rfl⟩
 have P2 : Hid (ParB W2 PB z5 (.slice va vn vc) (.slice (some ⟨B, 0, none⟩) N cap) (.slice none 0 0) (.slice none 0 0)) := hideP (by rw [hW2]; exact P1.out.items.keep ((below1 _ _).block PB (by simpa using hP1l)))
 have I2 : Hid (IntsL W2 T 116 (mTo (its xs) 0)) := hideP (by unfold IntsL; rw [hW2, hT]; have := heap_alloc_new (w1.setCell ⟨PB, 24, none⟩ (.slice (some ⟨B, 0, none⟩) N cap)) (.cells #[.int .i64 0, .int .i64 0, .int .i64 0, .int .i64 0, .int .i64 0, .int .i64 0, .int .i64 0, .int .i64 0, .int .i64 0] 116); simpa [mTo] using this)
 have F2 : Hid (Fr PB w W2) := hideP (by rw [hW2]; exact (F1.out.set _ _).alloc _)
 have B2 : Hid (W2.heap[B]? = w1.heap[B]?) := hideP (by rw [hW2]; exact ((below1 _ _).block B (by simpa using hBP.out.2)).trans (Below.heap_setCell _ _ _ _ (by simp; have := hBP.out; omega)))
 have HPT : Hid (PB < T) := hideP (by rw [hT]; exact hP1l)
 have HWT : Hid (w.heap.size ≤ T) := hideP (by rw [hT]; exact F1.out.2.2.2.1)
 have HTB1 : Hid (B < T) := hideP (by rw [hT]; exact hBP.out.2)
 go_wp2
 rw [← hW2, ← hT]
 clear hW2 hT b24 fz1
 go_loopw [19] (fun s19 wr => ∃ (k : Nat) (sv : Value) (m : Nat) (L : List Value), k ≤ N ∧ s19 = .int .i64 (k : Int) ∧ Hid (m = k ∧ L = flatM (its xs) k) ∧ Hid (ParB wr PB z5 (.slice va vn vc) (.slice (some ⟨B, 0, none⟩) N cap) sv (.slice none 0 0)) ∧ Hid (IntsL wr T 116 (mTo (its xs) k)) ∧ Hid (wr.ownsRow (T + 1) 116 9 sv m L) ∧ Hid (Fr PB w wr) ∧ Hid (wr.heap[B]? = w1.heap[B]?)) (fun s _ => N - (intOf s).toNat)
 case atStart => exact ⟨0, _, 0, [], by omega, rfl, hideP ⟨rfl, rfl⟩, P2, I2, hideP ⟨rfl, .inl ⟨rfl, rfl⟩⟩, F2, B2⟩
 case round =>
  obtain ⟨k, sv, m, L, hk, rfl, HMK, HPr, HIr, HOr, HFr, HBr⟩ := hrel
  have hmk : m ≤ k := Nat.le_of_eq HMK.out.1
  by_cases hkN : k < N
  ·have hki : (k : Int) < (N : Int) := by omega
   obtain ⟨ut, ct, rfl⟩ := ownG_shape HOr.out
   obtain ⟨y, hy⟩ : ∃ y, y = (its xs).getD k It.none := ⟨_, rfl⟩
   have hItR : ItR wr B (its xs) := by
    have h0 := its_row U1.out HN.out hN1
    obtain ⟨g, e, _, _, h1⟩ := h0
    obtain rfl : B = g := by simpa using e
    exact h1.block HBr.out
   have hkl : k < (its xs).length := by rw [HN.out]; exact hkN
   have k0 := hItR.c0 k hkl
   have k1 := hItR.c1 k hkl
   have k2 := hItR.c2 k hkl
   have hOy := HOR.out k hkN
   rw [← hy] at k0 k1 k2 hOy
   obtain ⟨ZS, hZS⟩ : ∃ ZS, ZS = mTo (its xs) k := ⟨_, rfl⟩
   obtain ⟨ZT, hZT⟩ : ∃ ZT, ZT = mTo (its xs) (k + 1) := ⟨_, rfl⟩
   have hzl : ZS.length = 9 := by rw [hZS]; exact mTo_len _ _
   have hzt : mAd 0 y.1 ZS = ZT := by rw [hZS, hZT, hy]; rfl
   have HZS := hideP hZS
   have HZT := hideP hZT
   have HZL := hideP hzl
   rw [← hZS] at HIr
   clear hZS hZT
   have MC : Hid (∀ W, IntsL W T 116 ZS → Calls Tryz.prog 78 #[.pointer (some ⟨T, 0, none⟩), thV y.1] W fun e w' => (∃ v, e = .returned v) ∧ IntsL w' T 116 ZT ∧ Fr T W w') := hideP (fun W hW => by rw [← hzt]; exact maddL_any 0 y.1 hW (by omega) hOy)
   clear hzl hzt
   obtain ⟨y0, y1, y2⟩ := y
   simp only at k0 k1 k2 MC
   have hBl : B < wr.heap.size := by have h1 := hBP.out.2; exact (Array.getElem?_eq_some_iff.1 (HBr.out.trans (Array.getElem?_eq_getElem h1))).1
   have c25 := HPr.out.c25
   have fz := HPr.out.free
   have hPl2 := HPr.out.lt
   have hsh := thV_shape y0
   obtain ⟨vy, hvy⟩ : ∃ v, v = thV y0 := ⟨_, rfl⟩
   rw [← hvy] at k0 MC hsh
   clear hy hOy hItR hkl hvy
   have HEX : Hid (vy = vy) := hideP rfl
   rcases hsh with rfl | ⟨Xi, qi, rfl⟩
   ·go_wp2
    obtain ⟨WA, hWA⟩ : ∃ WA, WA = wr.alloc (.cells #[.nilIface, .int .i64 y1, .int .i64 y2] 186) := ⟨_, rfl⟩
    rw [← hWA]
    have hqI := heap_alloc_new wr (.cells #[.nilIface, .int .i64 y1, .int .i64 y2] 186)
    rw [← hWA] at hqI
    have hsA : WA.heap.size = wr.heap.size + 1 := by rw [hWA]; simp
    have BA : Hid (Below wr.heap.size wr WA) := hideP (by rw [hWA]; exact below1 _ _)
    have PA : Hid (ParB WA PB z5 (.slice va vn vc) (.slice (some ⟨B, 0, none⟩) N cap) (.slice ut m ct) (.slice none 0 0)) := hideP (HPr.out.keep (BA.out.block PB hPl2))
    have IA : Hid (IntsL WA T 116 ZS) := hideP (HIr.out.below BA.out)
    have OA : Hid (WA.ownsRow (T + 1) 116 9 (.slice ut m ct) m L) := hideP (ownG_below HOr.out BA.out)
    have O5 := HOr
    have FA : Hid (Fr PB w WA) := hideP (HFr.out.below BA.out)
    have HBA : Hid (B < WA.heap.size ∧ WA.heap[B]? = w1.heap[B]?) := hideP ⟨by omega, (BA.out.block B hBl).trans HBr.out⟩
    have HIC : Hid (∀ X : World, X.heap[wr.heap.size]? = WA.heap[wr.heap.size]? → X.cell? ⟨wr.heap.size, 0, none⟩ = some (.nilIface) ∧ X.cell? ⟨wr.heap.size, 1, none⟩ = some (.int .i64 y1) ∧ X.cell? ⟨wr.heap.size, 2, none⟩ = some (.int .i64 y2) ∧ wr.heap.size < X.heap.size) := hideP (fun X hX => by
     have hh := hX.trans hqI
     exact ⟨by rw [cell_of_row X _ _ _ _ _ hh]; rfl, by rw [cell_of_row X _ _ _ _ _ hh]; rfl, by rw [cell_of_row X _ _ _ _ _ hh]; rfl, (Array.getElem?_eq_some_iff.1 hh).1⟩)
    have HIB : Hid (PB < wr.heap.size) := hideP hPl2
    have c25A := PA.out.c25
    have fzA := PA.out.free
    have hPAl : PB < WA.heap.size := PA.out.lt
    have hTl : T < WA.heap.size := IA.out.lt
    have t0 := IA.out.cell 0 (by rw [HZL.out]; omega)
    obtain ⟨z0, hz0⟩ : ∃ z, z = ZS.getD 0 0 := ⟨_, rfl⟩
    rw [← hz0] at t0
    have t1 := IA.out.cell 1 (by rw [HZL.out]; omega)
    obtain ⟨z1, hz1⟩ : ∃ z, z = ZS.getD 1 0 := ⟨_, rfl⟩
    rw [← hz1] at t1
    have t2 := IA.out.cell 2 (by rw [HZL.out]; omega)
    obtain ⟨z2, hz2⟩ : ∃ z, z = ZS.getD 2 0 := ⟨_, rfl⟩
    rw [← hz2] at t2
    have t3 := IA.out.cell 3 (by rw [HZL.out]; omega)
    obtain ⟨z3, hz3⟩ : ∃ z, z = ZS.getD 3 0 := ⟨_, rfl⟩
    rw [← hz3] at t3
    have t4 := IA.out.cell 4 (by rw [HZL.out]; omega)
    obtain ⟨z4, hz4⟩ : ∃ z, z = ZS.getD 4 0 := ⟨_, rfl⟩
    rw [← hz4] at t4
    have t5 := IA.out.cell 5 (by rw [HZL.out]; omega)
    obtain ⟨z5', hz5⟩ : ∃ z, z = ZS.getD 5 0 := ⟨_, rfl⟩
    rw [← hz5] at t5
    have t6 := IA.out.cell 6 (by rw [HZL.out]; omega)
    obtain ⟨z6, hz6⟩ : ∃ z, z = ZS.getD 6 0 := ⟨_, rfl⟩
    rw [← hz6] at t6
    have t7 := IA.out.cell 7 (by rw [HZL.out]; omega)
    obtain ⟨z7, hz7⟩ : ∃ z, z = ZS.getD 7 0 := ⟨_, rfl⟩
    rw [← hz7] at t7
    have t8 := IA.out.cell 8 (by rw [HZL.out]; omega)
    obtain ⟨z8, hz8⟩ : ∃ z, z = ZS.getD 8 0 := ⟨_, rfl⟩
    rw [← hz8] at t8
    have HZE : Hid (ZS.map (Value.int .i64) = [.int .i64 z0, .int .i64 z1, .int .i64 z2, .int .i64 z3, .int .i64 z4, .int .i64 z5', .int .i64 z6, .int .i64 z7, .int .i64 z8]) := hideP (by rw [hz0, hz1, hz2, hz3, hz4, hz5, hz6, hz7, hz8]; exact nine HZL.out)
    clear hz0 hz1 hz2 hz3 hz4 hz5 hz6 hz7 hz8
    have HTB : Hid (∀ X : World, X.heap[T]? = WA.heap[T]? → X.cell? ⟨T, 0, none⟩ = some (.int .i64 z0) ∧ X.cell? ⟨T, 1, none⟩ = some (.int .i64 z1) ∧ X.cell? ⟨T, 2, none⟩ = some (.int .i64 z2) ∧ X.cell? ⟨T, 3, none⟩ = some (.int .i64 z3) ∧ X.cell? ⟨T, 4, none⟩ = some (.int .i64 z4) ∧ X.cell? ⟨T, 5, none⟩ = some (.int .i64 z5') ∧ X.cell? ⟨T, 6, none⟩ = some (.int .i64 z6) ∧ X.cell? ⟨T, 7, none⟩ = some (.int .i64 z7) ∧ X.cell? ⟨T, 8, none⟩ = some (.int .i64 z8)) := hideP (fun X hX => ⟨(World.cell?_of_block (a := ⟨T, 0, none⟩) hX).trans t0, (World.cell?_of_block (a := ⟨T, 1, none⟩) hX).trans t1, (World.cell?_of_block (a := ⟨T, 2, none⟩) hX).trans t2, (World.cell?_of_block (a := ⟨T, 3, none⟩) hX).trans t3, (World.cell?_of_block (a := ⟨T, 4, none⟩) hX).trans t4, (World.cell?_of_block (a := ⟨T, 5, none⟩) hX).trans t5, (World.cell?_of_block (a := ⟨T, 6, none⟩) hX).trans t6, (World.cell?_of_block (a := ⟨T, 7, none⟩) hX).trans t7, (World.cell?_of_block (a := ⟨T, 8, none⟩) hX).trans t8⟩)
    have TB : Hid ((WA.alloc (.cells #[.int .i64 z0, .int .i64 z1, .int .i64 z2, .int .i64 z3, .int .i64 z4, .int .i64 z5', .int .i64 z6, .int .i64 z7, .int .i64 z8] 116)).drew.cell? ⟨T, 0, none⟩ = some (.int .i64 z0) ∧ (WA.alloc (.cells #[.int .i64 z0, .int .i64 z1, .int .i64 z2, .int .i64 z3, .int .i64 z4, .int .i64 z5', .int .i64 z6, .int .i64 z7, .int .i64 z8] 116)).drew.cell? ⟨T, 1, none⟩ = some (.int .i64 z1) ∧ (WA.alloc (.cells #[.int .i64 z0, .int .i64 z1, .int .i64 z2, .int .i64 z3, .int .i64 z4, .int .i64 z5', .int .i64 z6, .int .i64 z7, .int .i64 z8] 116)).drew.cell? ⟨T, 2, none⟩ = some (.int .i64 z2) ∧ (WA.alloc (.cells #[.int .i64 z0, .int .i64 z1, .int .i64 z2, .int .i64 z3, .int .i64 z4, .int .i64 z5', .int .i64 z6, .int .i64 z7, .int .i64 z8] 116)).drew.cell? ⟨T, 3, none⟩ = some (.int .i64 z3) ∧ (WA.alloc (.cells #[.int .i64 z0, .int .i64 z1, .int .i64 z2, .int .i64 z3, .int .i64 z4, .int .i64 z5', .int .i64 z6, .int .i64 z7, .int .i64 z8] 116)).drew.cell? ⟨T, 4, none⟩ = some (.int .i64 z4) ∧ (WA.alloc (.cells #[.int .i64 z0, .int .i64 z1, .int .i64 z2, .int .i64 z3, .int .i64 z4, .int .i64 z5', .int .i64 z6, .int .i64 z7, .int .i64 z8] 116)).drew.cell? ⟨T, 5, none⟩ = some (.int .i64 z5') ∧ (WA.alloc (.cells #[.int .i64 z0, .int .i64 z1, .int .i64 z2, .int .i64 z3, .int .i64 z4, .int .i64 z5', .int .i64 z6, .int .i64 z7, .int .i64 z8] 116)).drew.cell? ⟨T, 6, none⟩ = some (.int .i64 z6) ∧ (WA.alloc (.cells #[.int .i64 z0, .int .i64 z1, .int .i64 z2, .int .i64 z3, .int .i64 z4, .int .i64 z5', .int .i64 z6, .int .i64 z7, .int .i64 z8] 116)).drew.cell? ⟨T, 7, none⟩ = some (.int .i64 z7) ∧ (WA.alloc (.cells #[.int .i64 z0, .int .i64 z1, .int .i64 z2, .int .i64 z3, .int .i64 z4, .int .i64 z5', .int .i64 z6, .int .i64 z7, .int .i64 z8] 116)).drew.cell? ⟨T, 8, none⟩ = some (.int .i64 z8)) := hideP (HTB.out _ ((below1 WA _).block _ hTl))
    have HNE : Hid ((Value.slice ut m ct).ownBlock ≠ some T) := hideP (fun e => by have := (World.ownsRow.lt OA.out _ e).1; omega)
    have HTP : Hid ((Value.slice ut m ct).ownBlock ≠ some PB) := hideP (fun e => by have := (World.ownsRow.lt OA.out _ e).1; have := HPT.out; omega)
    have OB : Hid ((WA.alloc (.cells #[.int .i64 z0, .int .i64 z1, .int .i64 z2, .int .i64 z3, .int .i64 z4, .int .i64 z5', .int .i64 z6, .int .i64 z7, .int .i64 z8] 116)).drew.ownsRow (T + 1) 116 9 (.slice ut m ct) m L) := hideP (show World.ownsRow (WA.alloc (.cells #[.int .i64 z0, .int .i64 z1, .int .i64 z2, .int .i64 z3, .int .i64 z4, .int .i64 z5', .int .i64 z6, .int .i64 z7, .int .i64 z8] 116)) _ _ _ _ _ _ from ownG_below OA.out (below1 _ _))
    have NB : Hid (∀ j z, ([.int .i64 z0, .int .i64 z1, .int .i64 z2, .int .i64 z3, .int .i64 z4, .int .i64 z5', .int .i64 z6, .int .i64 z7, .int .i64 z8] : List Value)[j]? = some z → (WA.alloc (.cells #[.int .i64 z0, .int .i64 z1, .int .i64 z2, .int .i64 z3, .int .i64 z4, .int .i64 z5', .int .i64 z6, .int .i64 z7, .int .i64 z8] 116)).drew.cell? ((⟨WA.heap.size, 0, none⟩ : Addr).add j) = some z) := hideP (fun j z hz => by
     have he : ((⟨WA.heap.size, 0, none⟩ : Addr).add j) = ⟨WA.heap.size, j, none⟩ := by simp only [Addr.add]; split <;> simp_all
     have hh2 : (WA.alloc (.cells #[.int .i64 z0, .int .i64 z1, .int .i64 z2, .int .i64 z3, .int .i64 z4, .int .i64 z5', .int .i64 z6, .int .i64 z7, .int .i64 z8] 116)).drew.heap[WA.heap.size]? = some (.cells #[.int .i64 z0, .int .i64 z1, .int .i64 z2, .int .i64 z3, .int .i64 z4, .int .i64 z5', .int .i64 z6, .int .i64 z7, .int .i64 z8] 116 (0, 0)) := heap_alloc_new WA (.cells #[.int .i64 z0, .int .i64 z1, .int .i64 z2, .int .i64 z3, .int .i64 z4, .int .i64 z5', .int .i64 z6, .int .i64 z7, .int .i64 z8] 116)
     rw [he, cell_of_row _ _ _ _ _ _ hh2, ← hz]
     simp)
    have hwB : T + 1 ≤ (WA.alloc (.cells #[.int .i64 z0, .int .i64 z1, .int .i64 z2, .int .i64 z3, .int .i64 z4, .int .i64 z5', .int .i64 z6, .int .i64 z7, .int .i64 z8] 116)).drew.heap.size := show T + 1 ≤ (WA.alloc (.cells #[.int .i64 z0, .int .i64 z1, .int .i64 z2, .int .i64 z3, .int .i64 z4, .int .i64 z5', .int .i64 z6, .int .i64 z7, .int .i64 z8] 116)).heap.size by simp; omega
    have FB : Hid (Fr PB w (WA.alloc (.cells #[.int .i64 z0, .int .i64 z1, .int .i64 z2, .int .i64 z3, .int .i64 z4, .int .i64 z5', .int .i64 z6, .int .i64 z7, .int .i64 z8] 116)).drew) := hideP ((FA.out.alloc _).drew)
    have PBk : Hid (ParB (WA.alloc (.cells #[.int .i64 z0, .int .i64 z1, .int .i64 z2, .int .i64 z3, .int .i64 z4, .int .i64 z5', .int .i64 z6, .int .i64 z7, .int .i64 z8] 116)).drew PB z5 (.slice va vn vc) (.slice (some ⟨B, 0, none⟩) N cap) (.slice ut m ct) (.slice none 0 0)) := hideP (PA.out.keep ((below1 WA _).block PB hPAl))
    obtain ⟨WB, hWB⟩ : ∃ WB, WB = (WA.alloc (.cells #[.int .i64 z0, .int .i64 z1, .int .i64 z2, .int .i64 z3, .int .i64 z4, .int .i64 z5', .int .i64 z6, .int .i64 z7, .int .i64 z8] 116)).drew := ⟨_, rfl⟩
    have HLB : Hid (T < WB.heap.size ∧ PB < WB.heap.size ∧ WB.heap[T]? = WA.heap[T]?) := hideP (by
     rw [hWB]
     exact ⟨Nat.lt_of_lt_of_le hTl (below1 WA (.cells #[.int .i64 z0, .int .i64 z1, .int .i64 z2, .int .i64 z3, .int .i64 z4, .int .i64 z5', .int .i64 z6, .int .i64 z7, .int .i64 z8] 116)).size, Nat.lt_of_lt_of_le hPAl (below1 WA (.cells #[.int .i64 z0, .int .i64 z1, .int .i64 z2, .int .i64 z3, .int .i64 z4, .int .i64 z5', .int .i64 z6, .int .i64 z7, .int .i64 z8] 116)).size, (below1 WA (.cells #[.int .i64 z0, .int .i64 z1, .int .i64 z2, .int .i64 z3, .int .i64 z4, .int .i64 z5', .int .i64 z6, .int .i64 z7, .int .i64 z8] 116)).block _ hTl⟩)
    have HBL : Hid (B < WB.heap.size ∧ WB.heap[B]? = w1.heap[B]?) := hideP (by
     rw [hWB]
     exact ⟨Nat.lt_of_lt_of_le HBA.out.1 (below1 WA (.cells #[.int .i64 z0, .int .i64 z1, .int .i64 z2, .int .i64 z3, .int .i64 z4, .int .i64 z5', .int .i64 z6, .int .i64 z7, .int .i64 z8] 116)).size, ((below1 WA (.cells #[.int .i64 z0, .int .i64 z1, .int .i64 z2, .int .i64 z3, .int .i64 z4, .int .i64 z5', .int .i64 z6, .int .i64 z7, .int .i64 z8] 116)).block _ HBA.out.1).trans HBA.out.2⟩)
    have HIL : Hid (wr.heap.size < WB.heap.size ∧ WB.heap[wr.heap.size]? = WA.heap[wr.heap.size]?) := hideP (by
     rw [hWB]
     exact ⟨Nat.lt_of_lt_of_le (by omega) (below1 WA (.cells #[.int .i64 z0, .int .i64 z1, .int .i64 z2, .int .i64 z3, .int .i64 z4, .int .i64 z5', .int .i64 z6, .int .i64 z7, .int .i64 z8] 116)).size, (below1 WA (.cells #[.int .i64 z0, .int .i64 z1, .int .i64 z2, .int .i64 z3, .int .i64 z4, .int .i64 z5', .int .i64 z6, .int .i64 z7, .int .i64 z8] 116)).block _ (by omega)⟩)
    rw [← hWB] at OB NB hwB FB PBk
    clear hWA hqI k0 k1 k2 c25 fz hsA
    refine wp_region_held_drew (S := (fun x => x.cell? ⟨T, 0, none⟩ = some (.int .i64 z0) ∧ x.cell? ⟨T, 1, none⟩ = some (.int .i64 z1) ∧ x.cell? ⟨T, 2, none⟩ = some (.int .i64 z2) ∧ x.cell? ⟨T, 3, none⟩ = some (.int .i64 z3) ∧ x.cell? ⟨T, 4, none⟩ = some (.int .i64 z4) ∧ x.cell? ⟨T, 5, none⟩ = some (.int .i64 z5') ∧ x.cell? ⟨T, 6, none⟩ = some (.int .i64 z6) ∧ x.cell? ⟨T, 7, none⟩ = some (.int .i64 z7) ∧ x.cell? ⟨T, 8, none⟩ = some (.int .i64 z8))) (by kernel_rfl) ⟨t0, t1, t2, t3, t4, t5, t6, t7, t8⟩ (fun hS => ?_)
    refine wpAnyH_take (i := 0) (v := .pointer (some ⟨PB, 0, none⟩)) rfl (by kernel_rfl) (by kernel_rfl) (by kernel_rfl) (fun _ _ _ h => h) (Or.inl ⟨by first | rfl | go_simp, fun wx hx => by obtain ⟨hx0, hx1, hx2, hx3, hx4, hx5, hx6, hx7, hx8⟩ := hx; go_simp⟩) hS ?_
    try simp only [Act.put, List.getElem_toArray, List.getElem_cons_zero, List.getElem_cons_succ, List.setIfInBounds_toArray, List.set_cons_zero, List.set_cons_succ]
    refine wpAnyH_take (i := 1) (v := .pointer (some ⟨PB, 0, none⟩)) rfl (by kernel_rfl) (by kernel_rfl) (by kernel_rfl) (fun _ _ _ h => h) (Or.inl ⟨by first | rfl | go_simp, fun wx hx => by obtain ⟨hx0, hx1, hx2, hx3, hx4, hx5, hx6, hx7, hx8⟩ := hx; go_simp⟩) hS ?_
    try simp only [Act.put, List.getElem_toArray, List.getElem_cons_zero, List.getElem_cons_succ, List.setIfInBounds_toArray, List.set_cons_zero, List.set_cons_succ]
    refine wpAnyH_take (i := 2) (v := .pointer (some ⟨PB, 0, none⟩)) rfl (by kernel_rfl) (by kernel_rfl) (by kernel_rfl) (fun _ _ _ h => h) (Or.inl ⟨by first | rfl | go_simp, fun wx hx => by obtain ⟨hx0, hx1, hx2, hx3, hx4, hx5, hx6, hx7, hx8⟩ := hx; go_simp⟩) hS ?_
    try simp only [Act.put, List.getElem_toArray, List.getElem_cons_zero, List.getElem_cons_succ, List.setIfInBounds_toArray, List.set_cons_zero, List.set_cons_succ]
    refine wpAnyH_take (i := 3) (v := .pointer (some ⟨PB, 25, none⟩)) rfl (by kernel_rfl) (by kernel_rfl) (by kernel_rfl) (fun _ _ _ h => h) (Or.inl ⟨by first | rfl | go_simp, fun wx hx => by obtain ⟨hx0, hx1, hx2, hx3, hx4, hx5, hx6, hx7, hx8⟩ := hx; go_simp⟩) hS ?_
    try simp only [Act.put, List.getElem_toArray, List.getElem_cons_zero, List.getElem_cons_succ, List.setIfInBounds_toArray, List.set_cons_zero, List.set_cons_succ]
    refine wpAnyH_take (i := 5) (v := .agg #[.int .i64 z0, .int .i64 z1, .int .i64 z2, .int .i64 z3, .int .i64 z4, .int .i64 z5', .int .i64 z6, .int .i64 z7, .int .i64 z8]) rfl (by kernel_rfl) (by kernel_rfl) (by kernel_rfl) (fun _ _ _ h => h) (Or.inl ⟨by first | rfl | go_simp, fun wx hx => by obtain ⟨hx0, hx1, hx2, hx3, hx4, hx5, hx6, hx7, hx8⟩ := hx; go_simp⟩) hS ?_
    try simp only [Act.put, List.getElem_toArray, List.getElem_cons_zero, List.getElem_cons_succ, List.setIfInBounds_toArray, List.set_cons_zero, List.set_cons_succ]
    refine wpAnyH_ready (rs := [4, 6]) (by kernel_rfl) (by simp) ?_
    refine AllReadyH.cons rfl (fun K hK => ?_) (AllReadyH.cons rfl (fun K hK => ?_) AllReadyH.nil)
    ·rw [if_pos (by first | rfl | go_simp)]
     go_simp
     refine hK.out _ _ (⟨t0, t1, t2, t3, t4, t5, t6, t7, t8⟩) (fun hS2 => ?_)
     try simp only [Act.put, List.getElem_toArray, List.getElem_cons_zero, List.getElem_cons_succ, List.setIfInBounds_toArray, List.set_cons_zero, List.set_cons_succ]
     clear hK K
     refine wpAnyH_ready (rs := [6]) (by kernel_rfl) (by simp) ?_
     refine AllReadyH.cons rfl (fun K hK => ?_) AllReadyH.nil
     rw [if_pos (by first | rfl | go_simp)]
     go_simp
     refine hK.out _ _ (TB.out) (fun hS3 => ?_)
     try simp only [Act.put, List.getElem_toArray, List.getElem_cons_zero, List.getElem_cons_succ, List.setIfInBounds_toArray, List.set_cons_zero, List.set_cons_succ]
     clear hK K
     refine wpAnyH_ready (rs := [7]) (by kernel_rfl) (by simp) ?_
     refine AllReadyH.cons rfl (fun K hK => ?_) AllReadyH.nil
     rw [if_pos (by first | rfl | go_simp)]
     rw [← hWB]
     refine wp_append_at _ _ 87 rfl (T + 1) 116 i0 (.agg #[.int .i64 0, .int .i64 0, .int .i64 0, .int .i64 0, .int .i64 0, .int .i64 0, .int .i64 0, .int .i64 0, .int .i64 0]) 9 72 Tryz.underlying87 hi0 hy0 hy1 hy2 rfl (by decide) (.slice ut m ct) m L rfl OB.out ⟨WA.heap.size, 0, none⟩ 1 1 [.int .i64 z0, .int .i64 z1, .int .i64 z2, .int .i64 z3, .int .i64 z4, .int .i64 z5', .int .i64 z6, .int .i64 z7, .int .i64 z8] rfl rfl NB.out (by intro u hu; simp at hu; rcases hu with rfl | rfl | rfl | rfl | rfl | rfl | rfl | rfl | rfl <;> rfl) (by unfold maxLen; omega) (by omega) hwB ?_
     intro v6 w6 ho6 hg6 hn6 hat6
     obtain ⟨u6, d6, rfl⟩ := ownG_shape ho6
     have hb6 : w6.heap[T]? = WA.heap[T]? := (hg6.block _ HLB.out.1 (fun e => HNE.out e.symm)).trans HLB.out.2.2
     have T6 := hideP (HTB.out w6 hb6)
     have P6 : Hid (ParB w6 PB z5 (.slice va vn vc) (.slice (some ⟨B, 0, none⟩) N cap) (.slice ut m ct) (.slice none 0 0)) := hideP (PBk.out.keep (hg6.block PB HLB.out.2.1 (fun e => HTP.out e.symm)))
     have c25B := P6.out.c25
     have fz6 := P6.out.free
     have O6 : Hid (w6.ownsRow (T + 1) 116 9 (.slice u6 (m + 1) d6) (m + 1) (L ++ [.int .i64 z0, .int .i64 z1, .int .i64 z2, .int .i64 z3, .int .i64 z4, .int .i64 z5', .int .i64 z6, .int .i64 z7, .int .i64 z8])) := hideP ho6
     have T7 := hideP (HTB.out (w6.setCell ⟨PB, 25, none⟩ (.slice u6 (m + 1) d6)) ((Below.heap_setCell _ _ _ _ (by simp; have := HPT.out; omega)).trans hb6))
     have hP6l : PB < w6.heap.size := P6.out.lt
     have G6 := hideP hg6
     have HB6 := hideP hb6
     clear ho6 hg6 hn6 hat6 hb6
     refine hK.out _ _ T6.out (fun hS6 => ?_)
     try simp only [Act.put, List.getElem_toArray, List.getElem_cons_zero, List.getElem_cons_succ, List.setIfInBounds_toArray, List.set_cons_zero, List.set_cons_succ]
     clear hK K
     refine wpAnyH_take (i := 8) (v := .pointer (some ⟨PB, 0, none⟩)) rfl (by kernel_rfl) (by kernel_rfl) (by kernel_rfl) (fun _ _ _ h => h) (Or.inl ⟨by first | rfl | go_simp, fun wx hx => by obtain ⟨hx0, hx1, hx2, hx3, hx4, hx5, hx6, hx7, hx8⟩ := hx; go_simp⟩) hS6 ?_
     try simp only [Act.put, List.getElem_toArray, List.getElem_cons_zero, List.getElem_cons_succ, List.setIfInBounds_toArray, List.set_cons_zero, List.set_cons_succ]
     refine wpAnyH_take (i := 9) (v := .pointer (some ⟨PB, 25, none⟩)) rfl (by kernel_rfl) (by kernel_rfl) (by kernel_rfl) (fun _ _ _ h => h) (Or.inl ⟨by first | rfl | go_simp, fun wx hx => by obtain ⟨hx0, hx1, hx2, hx3, hx4, hx5, hx6, hx7, hx8⟩ := hx; go_simp⟩) hS6 ?_
     try simp only [Act.put, List.getElem_toArray, List.getElem_cons_zero, List.getElem_cons_succ, List.setIfInBounds_toArray, List.set_cons_zero, List.set_cons_succ]
     refine wpAnyH_ready (rs := [10]) (by kernel_rfl) (by simp) ?_
     refine AllReadyH.cons rfl (fun K hK => ?_) AllReadyH.nil
     rw [if_pos (by first | rfl | go_simp)]
     go_simp
     refine hK.out _ _ (T7.out) (fun _ => ?_)
     try simp only [Act.put, List.getElem_toArray, List.getElem_cons_zero, List.getElem_cons_succ, List.setIfInBounds_toArray, List.set_cons_zero, List.set_cons_succ]
     clear hK K
     refine wpAnyH_done (by kernel_rfl) ?_ _
     obtain ⟨W7, hW7⟩ : ∃ W7, W7 = w6.setCell ⟨PB, 25, none⟩ (.slice u6 (m + 1) d6) := ⟨_, rfl⟩
     rw [← hW7]
     have HNP : Hid ((Value.slice u6 (m + 1) d6).ownBlock ≠ some PB) := hideP (fun e => by have := (World.ownsRow.lt O6.out _ e).1; have := HPT.out; omega)
     have HNT : Hid ((Value.slice u6 (m + 1) d6).ownBlock ≠ some T) := hideP (fun e => by have := (World.ownsRow.lt O6.out _ e).1; omega)
     have P7 : Hid (ParB W7 PB z5 (.slice va vn vc) (.slice (some ⟨B, 0, none⟩) N cap) (.slice u6 (m + 1) d6) (.slice none 0 0)) := hideP (by rw [hW7]; exact P6.out.sums)
     have O7 : Hid (W7.ownsRow (T + 1) 116 9 (.slice u6 (m + 1) d6) (m + 1) (L ++ [.int .i64 z0, .int .i64 z1, .int .i64 z2, .int .i64 z3, .int .i64 z4, .int .i64 z5', .int .i64 z6, .int .i64 z7, .int .i64 z8])) := hideP (by rw [hW7]; exact ownG_other O6.out HNP.out 25 _)
     have F7 : Hid (Fr PB w W7) := hideP (by
      rw [hW7]
      refine Fr.set ?_ _ _
      refine ⟨G6.out.os.trans FB.out.1, G6.out.tape.trans FB.out.2.1, G6.out.output.trans FB.out.2.2.1, Nat.le_trans FB.out.2.2.2.1 G6.out.size, fun b hb hn => ?_⟩
      exact (G6.out.block b (Nat.lt_of_lt_of_le hb FB.out.2.2.2.1) (fun e => by have := (World.ownsRow.lt OB.out b e.symm).1; have := HWT.out; omega)).trans (FB.out.2.2.2.2 b hb hn))
     have hbT : W7.heap[T]? = WA.heap[T]? := by rw [hW7]; exact (Below.heap_setCell _ _ _ _ (by simp; have := HPT.out; omega)).trans HB6.out
     have I7 : Hid (IntsL W7 T 116 ZS) := hideP (hbT.trans IA.out)
     have hbB : W7.heap[B]? = w1.heap[B]? := by
      rw [hW7]
      refine (Below.heap_setCell _ _ _ _ (by simp; have := hBP.out; omega)).trans ?_
      exact (G6.out.block B HBL.out.1 (fun e => by have := (World.ownsRow.lt OB.out B e.symm).1; have := HTB1.out; omega)).trans HBL.out.2
     have HBB := hideP hbB
     obtain ⟨j0, j1, j2, j3⟩ := HIC.out W7 (by
      rw [hW7]
      refine (Below.heap_setCell _ _ _ _ (by simp; have := HIB.out; omega)).trans ?_
      exact (G6.out.block _ HIL.out.1 (fun e => by have := (World.ownsRow.lt O5.out _ e.symm).2; have := HIL.out; have := HIB.out; omega)).trans HIL.out.2)
     have hP7l : PB < W7.heap.size := P7.out.lt
     clear hW7 c25B fz6 hS hS2 hS3 hS6 hbT hbB
     go_wp2_with fail
     refine (MC.out _ I7.out).mono ?_
     rintro e w8 ⟨⟨vr, rfl⟩, hi8, hf8⟩
     have HR8 : Hid (ParB w8 PB z5 (.slice va vn vc) (.slice (some ⟨B, 0, none⟩) N cap) (.slice u6 (m + 1) d6) (.slice none 0 0)) := hideP (P7.out.keep (hf8.2.2.2.2 PB hP7l (by have := HPT.out; omega)))
     have HI8 := hideP hi8
     have HO8 : Hid (w8.ownsRow (T + 1) 116 9 (.slice u6 (m + 1) d6) (m + 1) (L ++ [.int .i64 z0, .int .i64 z1, .int .i64 z2, .int .i64 z3, .int .i64 z4, .int .i64 z5', .int .i64 z6, .int .i64 z7, .int .i64 z8])) := hideP (by
      obtain ⟨h0, h | ⟨gg, cap', cur, e, hgb, hb, hr'⟩⟩ := O7.out
      ·exact ⟨h0, .inl h⟩
      ·exact ⟨h0, .inr ⟨gg, cap', cur, e, hgb, (hf8.2.2.2.2 gg (Array.getElem?_eq_some_iff.1 hb).1 (by omega)).trans hb, hr'⟩⟩)
     have HF8 : Hid (Fr PB w w8) := hideP ⟨hf8.1.trans F7.out.1, hf8.2.1.trans F7.out.2.1, hf8.2.2.1.trans F7.out.2.2.1, Nat.le_trans F7.out.2.2.2.1 hf8.2.2.2.1, fun b hb hn => (hf8.2.2.2.2 b (Nat.lt_of_lt_of_le hb F7.out.2.2.2.1) (by have := HWT.out; omega)).trans (F7.out.2.2.2.2 b hb hn)⟩
     have HB8 : Hid (w8.heap[B]? = w1.heap[B]?) := hideP ((hf8.2.2.2.2 B (by have h := HBB.out; have h1 := hBP.out.2; exact (Array.getElem?_eq_some_iff.1 (h.trans (Array.getElem?_eq_getElem h1))).1) (by have := HTB1.out; omega)).trans HBB.out)
     clear hi8 hf8 j0 j1 j2 j3
     go_wp2
     go_roundw
     case rel => exact ⟨k + 1, _, m + 1, _, by omega, by go_num, hideP ⟨by rw [HMK.out.1], by rw [HMK.out.2, flatM_succ, ← HZS.out, HZE.out]⟩, HR8, (by rw [← HZT.out]; exact HI8), HO8, HF8, HB8⟩
     case measure => simp [intOf]; omega
    ·rw [if_pos (by first | rfl | go_simp)]
     go_simp
     refine hK.out _ _ (TB.out) (fun hS2 => ?_)
     try simp only [Act.put, List.getElem_toArray, List.getElem_cons_zero, List.getElem_cons_succ, List.setIfInBounds_toArray, List.set_cons_zero, List.set_cons_succ]
     clear hK K
     have c25W : (WA.alloc (.cells #[.int .i64 z0, .int .i64 z1, .int .i64 z2, .int .i64 z3, .int .i64 z4, .int .i64 z5', .int .i64 z6, .int .i64 z7, .int .i64 z8] 116)).drew.cell? ⟨PB, 25, none⟩ = some (.slice ut m ct) := by rw [← hWB]; exact PBk.out.c25
     refine wpAnyH_ready (rs := [4]) (by kernel_rfl) (by simp) ?_
     refine AllReadyH.cons rfl (fun K hK => ?_) AllReadyH.nil
     rw [if_pos (by first | rfl | go_simp)]
     go_simp
     refine hK.out _ _ (TB.out) (fun hS3 => ?_)
     try simp only [Act.put, List.getElem_toArray, List.getElem_cons_zero, List.getElem_cons_succ, List.setIfInBounds_toArray, List.set_cons_zero, List.set_cons_succ]
     clear hK K
     refine wpAnyH_ready (rs := [7]) (by kernel_rfl) (by simp) ?_
     refine AllReadyH.cons rfl (fun K hK => ?_) AllReadyH.nil
     rw [if_pos (by first | rfl | go_simp)]
     rw [← hWB]
     refine wp_append_at _ _ 87 rfl (T + 1) 116 i0 (.agg #[.int .i64 0, .int .i64 0, .int .i64 0, .int .i64 0, .int .i64 0, .int .i64 0, .int .i64 0, .int .i64 0, .int .i64 0]) 9 72 Tryz.underlying87 hi0 hy0 hy1 hy2 rfl (by decide) (.slice ut m ct) m L rfl OB.out ⟨WA.heap.size, 0, none⟩ 1 1 [.int .i64 z0, .int .i64 z1, .int .i64 z2, .int .i64 z3, .int .i64 z4, .int .i64 z5', .int .i64 z6, .int .i64 z7, .int .i64 z8] rfl rfl NB.out (by intro u hu; simp at hu; rcases hu with rfl | rfl | rfl | rfl | rfl | rfl | rfl | rfl | rfl <;> rfl) (by unfold maxLen; omega) (by omega) hwB ?_
     intro v6 w6 ho6 hg6 hn6 hat6
     obtain ⟨u6, d6, rfl⟩ := ownG_shape ho6
     have hb6 : w6.heap[T]? = WA.heap[T]? := (hg6.block _ HLB.out.1 (fun e => HNE.out e.symm)).trans HLB.out.2.2
     have T6 := hideP (HTB.out w6 hb6)
     have P6 : Hid (ParB w6 PB z5 (.slice va vn vc) (.slice (some ⟨B, 0, none⟩) N cap) (.slice ut m ct) (.slice none 0 0)) := hideP (PBk.out.keep (hg6.block PB HLB.out.2.1 (fun e => HTP.out e.symm)))
     have c25B := P6.out.c25
     have fz6 := P6.out.free
     have O6 : Hid (w6.ownsRow (T + 1) 116 9 (.slice u6 (m + 1) d6) (m + 1) (L ++ [.int .i64 z0, .int .i64 z1, .int .i64 z2, .int .i64 z3, .int .i64 z4, .int .i64 z5', .int .i64 z6, .int .i64 z7, .int .i64 z8])) := hideP ho6
     have T7 := hideP (HTB.out (w6.setCell ⟨PB, 25, none⟩ (.slice u6 (m + 1) d6)) ((Below.heap_setCell _ _ _ _ (by simp; have := HPT.out; omega)).trans hb6))
     have hP6l : PB < w6.heap.size := P6.out.lt
     have G6 := hideP hg6
     have HB6 := hideP hb6
     clear ho6 hg6 hn6 hat6 hb6
     refine hK.out _ _ T6.out (fun hS6 => ?_)
     try simp only [Act.put, List.getElem_toArray, List.getElem_cons_zero, List.getElem_cons_succ, List.setIfInBounds_toArray, List.set_cons_zero, List.set_cons_succ]
     clear hK K
     refine wpAnyH_take (i := 8) (v := .pointer (some ⟨PB, 0, none⟩)) rfl (by kernel_rfl) (by kernel_rfl) (by kernel_rfl) (fun _ _ _ h => h) (Or.inl ⟨by first | rfl | go_simp, fun wx hx => by obtain ⟨hx0, hx1, hx2, hx3, hx4, hx5, hx6, hx7, hx8⟩ := hx; go_simp⟩) hS6 ?_
     try simp only [Act.put, List.getElem_toArray, List.getElem_cons_zero, List.getElem_cons_succ, List.setIfInBounds_toArray, List.set_cons_zero, List.set_cons_succ]
     refine wpAnyH_take (i := 9) (v := .pointer (some ⟨PB, 25, none⟩)) rfl (by kernel_rfl) (by kernel_rfl) (by kernel_rfl) (fun _ _ _ h => h) (Or.inl ⟨by first | rfl | go_simp, fun wx hx => by obtain ⟨hx0, hx1, hx2, hx3, hx4, hx5, hx6, hx7, hx8⟩ := hx; go_simp⟩) hS6 ?_
     try simp only [Act.put, List.getElem_toArray, List.getElem_cons_zero, List.getElem_cons_succ, List.setIfInBounds_toArray, List.set_cons_zero, List.set_cons_succ]
     refine wpAnyH_ready (rs := [10]) (by kernel_rfl) (by simp) ?_
     refine AllReadyH.cons rfl (fun K hK => ?_) AllReadyH.nil
     rw [if_pos (by first | rfl | go_simp)]
     go_simp
     refine hK.out _ _ (T7.out) (fun _ => ?_)
     try simp only [Act.put, List.getElem_toArray, List.getElem_cons_zero, List.getElem_cons_succ, List.setIfInBounds_toArray, List.set_cons_zero, List.set_cons_succ]
     clear hK K
     refine wpAnyH_done (by kernel_rfl) ?_ _
     obtain ⟨W7, hW7⟩ : ∃ W7, W7 = w6.setCell ⟨PB, 25, none⟩ (.slice u6 (m + 1) d6) := ⟨_, rfl⟩
     rw [← hW7]
     have HNP : Hid ((Value.slice u6 (m + 1) d6).ownBlock ≠ some PB) := hideP (fun e => by have := (World.ownsRow.lt O6.out _ e).1; have := HPT.out; omega)
     have HNT : Hid ((Value.slice u6 (m + 1) d6).ownBlock ≠ some T) := hideP (fun e => by have := (World.ownsRow.lt O6.out _ e).1; omega)
     have P7 : Hid (ParB W7 PB z5 (.slice va vn vc) (.slice (some ⟨B, 0, none⟩) N cap) (.slice u6 (m + 1) d6) (.slice none 0 0)) := hideP (by rw [hW7]; exact P6.out.sums)
     have O7 : Hid (W7.ownsRow (T + 1) 116 9 (.slice u6 (m + 1) d6) (m + 1) (L ++ [.int .i64 z0, .int .i64 z1, .int .i64 z2, .int .i64 z3, .int .i64 z4, .int .i64 z5', .int .i64 z6, .int .i64 z7, .int .i64 z8])) := hideP (by rw [hW7]; exact ownG_other O6.out HNP.out 25 _)
     have F7 : Hid (Fr PB w W7) := hideP (by
      rw [hW7]
      refine Fr.set ?_ _ _
      refine ⟨G6.out.os.trans FB.out.1, G6.out.tape.trans FB.out.2.1, G6.out.output.trans FB.out.2.2.1, Nat.le_trans FB.out.2.2.2.1 G6.out.size, fun b hb hn => ?_⟩
      exact (G6.out.block b (Nat.lt_of_lt_of_le hb FB.out.2.2.2.1) (fun e => by have := (World.ownsRow.lt OB.out b e.symm).1; have := HWT.out; omega)).trans (FB.out.2.2.2.2 b hb hn))
     have hbT : W7.heap[T]? = WA.heap[T]? := by rw [hW7]; exact (Below.heap_setCell _ _ _ _ (by simp; have := HPT.out; omega)).trans HB6.out
     have I7 : Hid (IntsL W7 T 116 ZS) := hideP (hbT.trans IA.out)
     have hbB : W7.heap[B]? = w1.heap[B]? := by
      rw [hW7]
      refine (Below.heap_setCell _ _ _ _ (by simp; have := hBP.out; omega)).trans ?_
      exact (G6.out.block B HBL.out.1 (fun e => by have := (World.ownsRow.lt OB.out B e.symm).1; have := HTB1.out; omega)).trans HBL.out.2
     have HBB := hideP hbB
     obtain ⟨j0, j1, j2, j3⟩ := HIC.out W7 (by
      rw [hW7]
      refine (Below.heap_setCell _ _ _ _ (by simp; have := HIB.out; omega)).trans ?_
      exact (G6.out.block _ HIL.out.1 (fun e => by have := (World.ownsRow.lt O5.out _ e.symm).2; have := HIL.out; have := HIB.out; omega)).trans HIL.out.2)
     have hP7l : PB < W7.heap.size := P7.out.lt
     clear hW7 c25B fz6 hS hS2 hS3 hS6 hbT hbB
     go_wp2_with fail
     refine (MC.out _ I7.out).mono ?_
     rintro e w8 ⟨⟨vr, rfl⟩, hi8, hf8⟩
     have HR8 : Hid (ParB w8 PB z5 (.slice va vn vc) (.slice (some ⟨B, 0, none⟩) N cap) (.slice u6 (m + 1) d6) (.slice none 0 0)) := hideP (P7.out.keep (hf8.2.2.2.2 PB hP7l (by have := HPT.out; omega)))
     have HI8 := hideP hi8
     have HO8 : Hid (w8.ownsRow (T + 1) 116 9 (.slice u6 (m + 1) d6) (m + 1) (L ++ [.int .i64 z0, .int .i64 z1, .int .i64 z2, .int .i64 z3, .int .i64 z4, .int .i64 z5', .int .i64 z6, .int .i64 z7, .int .i64 z8])) := hideP (by
      obtain ⟨h0, h | ⟨gg, cap', cur, e, hgb, hb, hr'⟩⟩ := O7.out
      ·exact ⟨h0, .inl h⟩
      ·exact ⟨h0, .inr ⟨gg, cap', cur, e, hgb, (hf8.2.2.2.2 gg (Array.getElem?_eq_some_iff.1 hb).1 (by omega)).trans hb, hr'⟩⟩)
     have HF8 : Hid (Fr PB w w8) := hideP ⟨hf8.1.trans F7.out.1, hf8.2.1.trans F7.out.2.1, hf8.2.2.1.trans F7.out.2.2.1, Nat.le_trans F7.out.2.2.2.1 hf8.2.2.2.1, fun b hb hn => (hf8.2.2.2.2 b (Nat.lt_of_lt_of_le hb F7.out.2.2.2.1) (by have := HWT.out; omega)).trans (F7.out.2.2.2.2 b hb hn)⟩
     have HB8 : Hid (w8.heap[B]? = w1.heap[B]?) := hideP ((hf8.2.2.2.2 B (by have h := HBB.out; have h1 := hBP.out.2; exact (Array.getElem?_eq_some_iff.1 (h.trans (Array.getElem?_eq_getElem h1))).1) (by have := HTB1.out; omega)).trans HBB.out)
     clear hi8 hf8 j0 j1 j2 j3
     go_wp2
     go_roundw
     case rel => exact ⟨k + 1, _, m + 1, _, by omega, by go_num, hideP ⟨by rw [HMK.out.1], by rw [HMK.out.2, flatM_succ, ← HZS.out, HZE.out]⟩, HR8, (by rw [← HZT.out]; exact HI8), HO8, HF8, HB8⟩
     case measure => simp [intOf]; omega
   ·go_wp2
    obtain ⟨WA, hWA⟩ : ∃ WA, WA = wr.alloc (.cells #[.iface Xi qi, .int .i64 y1, .int .i64 y2] 186) := ⟨_, rfl⟩
    rw [← hWA]
    have hqI := heap_alloc_new wr (.cells #[.iface Xi qi, .int .i64 y1, .int .i64 y2] 186)
    rw [← hWA] at hqI
    have hsA : WA.heap.size = wr.heap.size + 1 := by rw [hWA]; simp
    have BA : Hid (Below wr.heap.size wr WA) := hideP (by rw [hWA]; exact below1 _ _)
    have PA : Hid (ParB WA PB z5 (.slice va vn vc) (.slice (some ⟨B, 0, none⟩) N cap) (.slice ut m ct) (.slice none 0 0)) := hideP (HPr.out.keep (BA.out.block PB hPl2))
    have IA : Hid (IntsL WA T 116 ZS) := hideP (HIr.out.below BA.out)
    have OA : Hid (WA.ownsRow (T + 1) 116 9 (.slice ut m ct) m L) := hideP (ownG_below HOr.out BA.out)
    have O5 := HOr
    have FA : Hid (Fr PB w WA) := hideP (HFr.out.below BA.out)
    have HBA : Hid (B < WA.heap.size ∧ WA.heap[B]? = w1.heap[B]?) := hideP ⟨by omega, (BA.out.block B hBl).trans HBr.out⟩
    have HIC : Hid (∀ X : World, X.heap[wr.heap.size]? = WA.heap[wr.heap.size]? → X.cell? ⟨wr.heap.size, 0, none⟩ = some (.iface Xi qi) ∧ X.cell? ⟨wr.heap.size, 1, none⟩ = some (.int .i64 y1) ∧ X.cell? ⟨wr.heap.size, 2, none⟩ = some (.int .i64 y2) ∧ wr.heap.size < X.heap.size) := hideP (fun X hX => by
     have hh := hX.trans hqI
     exact ⟨by rw [cell_of_row X _ _ _ _ _ hh]; rfl, by rw [cell_of_row X _ _ _ _ _ hh]; rfl, by rw [cell_of_row X _ _ _ _ _ hh]; rfl, (Array.getElem?_eq_some_iff.1 hh).1⟩)
    have HIB : Hid (PB < wr.heap.size) := hideP hPl2
    have c25A := PA.out.c25
    have fzA := PA.out.free
    have hPAl : PB < WA.heap.size := PA.out.lt
    have hTl : T < WA.heap.size := IA.out.lt
    have t0 := IA.out.cell 0 (by rw [HZL.out]; omega)
    obtain ⟨z0, hz0⟩ : ∃ z, z = ZS.getD 0 0 := ⟨_, rfl⟩
    rw [← hz0] at t0
    have t1 := IA.out.cell 1 (by rw [HZL.out]; omega)
    obtain ⟨z1, hz1⟩ : ∃ z, z = ZS.getD 1 0 := ⟨_, rfl⟩
    rw [← hz1] at t1
    have t2 := IA.out.cell 2 (by rw [HZL.out]; omega)
    obtain ⟨z2, hz2⟩ : ∃ z, z = ZS.getD 2 0 := ⟨_, rfl⟩
    rw [← hz2] at t2
    have t3 := IA.out.cell 3 (by rw [HZL.out]; omega)
    obtain ⟨z3, hz3⟩ : ∃ z, z = ZS.getD 3 0 := ⟨_, rfl⟩
    rw [← hz3] at t3
    have t4 := IA.out.cell 4 (by rw [HZL.out]; omega)
    obtain ⟨z4, hz4⟩ : ∃ z, z = ZS.getD 4 0 := ⟨_, rfl⟩
    rw [← hz4] at t4
    have t5 := IA.out.cell 5 (by rw [HZL.out]; omega)
    obtain ⟨z5', hz5⟩ : ∃ z, z = ZS.getD 5 0 := ⟨_, rfl⟩
    rw [← hz5] at t5
    have t6 := IA.out.cell 6 (by rw [HZL.out]; omega)
    obtain ⟨z6, hz6⟩ : ∃ z, z = ZS.getD 6 0 := ⟨_, rfl⟩
    rw [← hz6] at t6
    have t7 := IA.out.cell 7 (by rw [HZL.out]; omega)
    obtain ⟨z7, hz7⟩ : ∃ z, z = ZS.getD 7 0 := ⟨_, rfl⟩
    rw [← hz7] at t7
    have t8 := IA.out.cell 8 (by rw [HZL.out]; omega)
    obtain ⟨z8, hz8⟩ : ∃ z, z = ZS.getD 8 0 := ⟨_, rfl⟩
    rw [← hz8] at t8
    have HZE : Hid (ZS.map (Value.int .i64) = [.int .i64 z0, .int .i64 z1, .int .i64 z2, .int .i64 z3, .int .i64 z4, .int .i64 z5', .int .i64 z6, .int .i64 z7, .int .i64 z8]) := hideP (by rw [hz0, hz1, hz2, hz3, hz4, hz5, hz6, hz7, hz8]; exact nine HZL.out)
    clear hz0 hz1 hz2 hz3 hz4 hz5 hz6 hz7 hz8
    have HTB : Hid (∀ X : World, X.heap[T]? = WA.heap[T]? → X.cell? ⟨T, 0, none⟩ = some (.int .i64 z0) ∧ X.cell? ⟨T, 1, none⟩ = some (.int .i64 z1) ∧ X.cell? ⟨T, 2, none⟩ = some (.int .i64 z2) ∧ X.cell? ⟨T, 3, none⟩ = some (.int .i64 z3) ∧ X.cell? ⟨T, 4, none⟩ = some (.int .i64 z4) ∧ X.cell? ⟨T, 5, none⟩ = some (.int .i64 z5') ∧ X.cell? ⟨T, 6, none⟩ = some (.int .i64 z6) ∧ X.cell? ⟨T, 7, none⟩ = some (.int .i64 z7) ∧ X.cell? ⟨T, 8, none⟩ = some (.int .i64 z8)) := hideP (fun X hX => ⟨(World.cell?_of_block (a := ⟨T, 0, none⟩) hX).trans t0, (World.cell?_of_block (a := ⟨T, 1, none⟩) hX).trans t1, (World.cell?_of_block (a := ⟨T, 2, none⟩) hX).trans t2, (World.cell?_of_block (a := ⟨T, 3, none⟩) hX).trans t3, (World.cell?_of_block (a := ⟨T, 4, none⟩) hX).trans t4, (World.cell?_of_block (a := ⟨T, 5, none⟩) hX).trans t5, (World.cell?_of_block (a := ⟨T, 6, none⟩) hX).trans t6, (World.cell?_of_block (a := ⟨T, 7, none⟩) hX).trans t7, (World.cell?_of_block (a := ⟨T, 8, none⟩) hX).trans t8⟩)
    have TB : Hid ((WA.alloc (.cells #[.int .i64 z0, .int .i64 z1, .int .i64 z2, .int .i64 z3, .int .i64 z4, .int .i64 z5', .int .i64 z6, .int .i64 z7, .int .i64 z8] 116)).drew.cell? ⟨T, 0, none⟩ = some (.int .i64 z0) ∧ (WA.alloc (.cells #[.int .i64 z0, .int .i64 z1, .int .i64 z2, .int .i64 z3, .int .i64 z4, .int .i64 z5', .int .i64 z6, .int .i64 z7, .int .i64 z8] 116)).drew.cell? ⟨T, 1, none⟩ = some (.int .i64 z1) ∧ (WA.alloc (.cells #[.int .i64 z0, .int .i64 z1, .int .i64 z2, .int .i64 z3, .int .i64 z4, .int .i64 z5', .int .i64 z6, .int .i64 z7, .int .i64 z8] 116)).drew.cell? ⟨T, 2, none⟩ = some (.int .i64 z2) ∧ (WA.alloc (.cells #[.int .i64 z0, .int .i64 z1, .int .i64 z2, .int .i64 z3, .int .i64 z4, .int .i64 z5', .int .i64 z6, .int .i64 z7, .int .i64 z8] 116)).drew.cell? ⟨T, 3, none⟩ = some (.int .i64 z3) ∧ (WA.alloc (.cells #[.int .i64 z0, .int .i64 z1, .int .i64 z2, .int .i64 z3, .int .i64 z4, .int .i64 z5', .int .i64 z6, .int .i64 z7, .int .i64 z8] 116)).drew.cell? ⟨T, 4, none⟩ = some (.int .i64 z4) ∧ (WA.alloc (.cells #[.int .i64 z0, .int .i64 z1, .int .i64 z2, .int .i64 z3, .int .i64 z4, .int .i64 z5', .int .i64 z6, .int .i64 z7, .int .i64 z8] 116)).drew.cell? ⟨T, 5, none⟩ = some (.int .i64 z5') ∧ (WA.alloc (.cells #[.int .i64 z0, .int .i64 z1, .int .i64 z2, .int .i64 z3, .int .i64 z4, .int .i64 z5', .int .i64 z6, .int .i64 z7, .int .i64 z8] 116)).drew.cell? ⟨T, 6, none⟩ = some (.int .i64 z6) ∧ (WA.alloc (.cells #[.int .i64 z0, .int .i64 z1, .int .i64 z2, .int .i64 z3, .int .i64 z4, .int .i64 z5', .int .i64 z6, .int .i64 z7, .int .i64 z8] 116)).drew.cell? ⟨T, 7, none⟩ = some (.int .i64 z7) ∧ (WA.alloc (.cells #[.int .i64 z0, .int .i64 z1, .int .i64 z2, .int .i64 z3, .int .i64 z4, .int .i64 z5', .int .i64 z6, .int .i64 z7, .int .i64 z8] 116)).drew.cell? ⟨T, 8, none⟩ = some (.int .i64 z8)) := hideP (HTB.out _ ((below1 WA _).block _ hTl))
    have HNE : Hid ((Value.slice ut m ct).ownBlock ≠ some T) := hideP (fun e => by have := (World.ownsRow.lt OA.out _ e).1; omega)
    have HTP : Hid ((Value.slice ut m ct).ownBlock ≠ some PB) := hideP (fun e => by have := (World.ownsRow.lt OA.out _ e).1; have := HPT.out; omega)
    have OB : Hid ((WA.alloc (.cells #[.int .i64 z0, .int .i64 z1, .int .i64 z2, .int .i64 z3, .int .i64 z4, .int .i64 z5', .int .i64 z6, .int .i64 z7, .int .i64 z8] 116)).drew.ownsRow (T + 1) 116 9 (.slice ut m ct) m L) := hideP (show World.ownsRow (WA.alloc (.cells #[.int .i64 z0, .int .i64 z1, .int .i64 z2, .int .i64 z3, .int .i64 z4, .int .i64 z5', .int .i64 z6, .int .i64 z7, .int .i64 z8] 116)) _ _ _ _ _ _ from ownG_below OA.out (below1 _ _))
    have NB : Hid (∀ j z, ([.int .i64 z0, .int .i64 z1, .int .i64 z2, .int .i64 z3, .int .i64 z4, .int .i64 z5', .int .i64 z6, .int .i64 z7, .int .i64 z8] : List Value)[j]? = some z → (WA.alloc (.cells #[.int .i64 z0, .int .i64 z1, .int .i64 z2, .int .i64 z3, .int .i64 z4, .int .i64 z5', .int .i64 z6, .int .i64 z7, .int .i64 z8] 116)).drew.cell? ((⟨WA.heap.size, 0, none⟩ : Addr).add j) = some z) := hideP (fun j z hz => by
     have he : ((⟨WA.heap.size, 0, none⟩ : Addr).add j) = ⟨WA.heap.size, j, none⟩ := by simp only [Addr.add]; split <;> simp_all
     have hh2 : (WA.alloc (.cells #[.int .i64 z0, .int .i64 z1, .int .i64 z2, .int .i64 z3, .int .i64 z4, .int .i64 z5', .int .i64 z6, .int .i64 z7, .int .i64 z8] 116)).drew.heap[WA.heap.size]? = some (.cells #[.int .i64 z0, .int .i64 z1, .int .i64 z2, .int .i64 z3, .int .i64 z4, .int .i64 z5', .int .i64 z6, .int .i64 z7, .int .i64 z8] 116 (0, 0)) := heap_alloc_new WA (.cells #[.int .i64 z0, .int .i64 z1, .int .i64 z2, .int .i64 z3, .int .i64 z4, .int .i64 z5', .int .i64 z6, .int .i64 z7, .int .i64 z8] 116)
     rw [he, cell_of_row _ _ _ _ _ _ hh2, ← hz]
     simp)
    have hwB : T + 1 ≤ (WA.alloc (.cells #[.int .i64 z0, .int .i64 z1, .int .i64 z2, .int .i64 z3, .int .i64 z4, .int .i64 z5', .int .i64 z6, .int .i64 z7, .int .i64 z8] 116)).drew.heap.size := show T + 1 ≤ (WA.alloc (.cells #[.int .i64 z0, .int .i64 z1, .int .i64 z2, .int .i64 z3, .int .i64 z4, .int .i64 z5', .int .i64 z6, .int .i64 z7, .int .i64 z8] 116)).heap.size by simp; omega
    have FB : Hid (Fr PB w (WA.alloc (.cells #[.int .i64 z0, .int .i64 z1, .int .i64 z2, .int .i64 z3, .int .i64 z4, .int .i64 z5', .int .i64 z6, .int .i64 z7, .int .i64 z8] 116)).drew) := hideP ((FA.out.alloc _).drew)
    have PBk : Hid (ParB (WA.alloc (.cells #[.int .i64 z0, .int .i64 z1, .int .i64 z2, .int .i64 z3, .int .i64 z4, .int .i64 z5', .int .i64 z6, .int .i64 z7, .int .i64 z8] 116)).drew PB z5 (.slice va vn vc) (.slice (some ⟨B, 0, none⟩) N cap) (.slice ut m ct) (.slice none 0 0)) := hideP (PA.out.keep ((below1 WA _).block PB hPAl))
    obtain ⟨WB, hWB⟩ : ∃ WB, WB = (WA.alloc (.cells #[.int .i64 z0, .int .i64 z1, .int .i64 z2, .int .i64 z3, .int .i64 z4, .int .i64 z5', .int .i64 z6, .int .i64 z7, .int .i64 z8] 116)).drew := ⟨_, rfl⟩
    have HLB : Hid (T < WB.heap.size ∧ PB < WB.heap.size ∧ WB.heap[T]? = WA.heap[T]?) := hideP (by
     rw [hWB]
     exact ⟨Nat.lt_of_lt_of_le hTl (below1 WA (.cells #[.int .i64 z0, .int .i64 z1, .int .i64 z2, .int .i64 z3, .int .i64 z4, .int .i64 z5', .int .i64 z6, .int .i64 z7, .int .i64 z8] 116)).size, Nat.lt_of_lt_of_le hPAl (below1 WA (.cells #[.int .i64 z0, .int .i64 z1, .int .i64 z2, .int .i64 z3, .int .i64 z4, .int .i64 z5', .int .i64 z6, .int .i64 z7, .int .i64 z8] 116)).size, (below1 WA (.cells #[.int .i64 z0, .int .i64 z1, .int .i64 z2, .int .i64 z3, .int .i64 z4, .int .i64 z5', .int .i64 z6, .int .i64 z7, .int .i64 z8] 116)).block _ hTl⟩)
    have HBL : Hid (B < WB.heap.size ∧ WB.heap[B]? = w1.heap[B]?) := hideP (by
     rw [hWB]
     exact ⟨Nat.lt_of_lt_of_le HBA.out.1 (below1 WA (.cells #[.int .i64 z0, .int .i64 z1, .int .i64 z2, .int .i64 z3, .int .i64 z4, .int .i64 z5', .int .i64 z6, .int .i64 z7, .int .i64 z8] 116)).size, ((below1 WA (.cells #[.int .i64 z0, .int .i64 z1, .int .i64 z2, .int .i64 z3, .int .i64 z4, .int .i64 z5', .int .i64 z6, .int .i64 z7, .int .i64 z8] 116)).block _ HBA.out.1).trans HBA.out.2⟩)
    have HIL : Hid (wr.heap.size < WB.heap.size ∧ WB.heap[wr.heap.size]? = WA.heap[wr.heap.size]?) := hideP (by
     rw [hWB]
     exact ⟨Nat.lt_of_lt_of_le (by omega) (below1 WA (.cells #[.int .i64 z0, .int .i64 z1, .int .i64 z2, .int .i64 z3, .int .i64 z4, .int .i64 z5', .int .i64 z6, .int .i64 z7, .int .i64 z8] 116)).size, (below1 WA (.cells #[.int .i64 z0, .int .i64 z1, .int .i64 z2, .int .i64 z3, .int .i64 z4, .int .i64 z5', .int .i64 z6, .int .i64 z7, .int .i64 z8] 116)).block _ (by omega)⟩)
    rw [← hWB] at OB NB hwB FB PBk
    clear hWA hqI k0 k1 k2 c25 fz hsA
    refine wp_region_held_drew (S := (fun x => x.cell? ⟨T, 0, none⟩ = some (.int .i64 z0) ∧ x.cell? ⟨T, 1, none⟩ = some (.int .i64 z1) ∧ x.cell? ⟨T, 2, none⟩ = some (.int .i64 z2) ∧ x.cell? ⟨T, 3, none⟩ = some (.int .i64 z3) ∧ x.cell? ⟨T, 4, none⟩ = some (.int .i64 z4) ∧ x.cell? ⟨T, 5, none⟩ = some (.int .i64 z5') ∧ x.cell? ⟨T, 6, none⟩ = some (.int .i64 z6) ∧ x.cell? ⟨T, 7, none⟩ = some (.int .i64 z7) ∧ x.cell? ⟨T, 8, none⟩ = some (.int .i64 z8))) (by kernel_rfl) ⟨t0, t1, t2, t3, t4, t5, t6, t7, t8⟩ (fun hS => ?_)
    refine wpAnyH_take (i := 0) (v := .pointer (some ⟨PB, 0, none⟩)) rfl (by kernel_rfl) (by kernel_rfl) (by kernel_rfl) (fun _ _ _ h => h) (Or.inl ⟨by first | rfl | go_simp, fun wx hx => by obtain ⟨hx0, hx1, hx2, hx3, hx4, hx5, hx6, hx7, hx8⟩ := hx; go_simp⟩) hS ?_
    try simp only [Act.put, List.getElem_toArray, List.getElem_cons_zero, List.getElem_cons_succ, List.setIfInBounds_toArray, List.set_cons_zero, List.set_cons_succ]
    refine wpAnyH_take (i := 1) (v := .pointer (some ⟨PB, 0, none⟩)) rfl (by kernel_rfl) (by kernel_rfl) (by kernel_rfl) (fun _ _ _ h => h) (Or.inl ⟨by first | rfl | go_simp, fun wx hx => by obtain ⟨hx0, hx1, hx2, hx3, hx4, hx5, hx6, hx7, hx8⟩ := hx; go_simp⟩) hS ?_
    try simp only [Act.put, List.getElem_toArray, List.getElem_cons_zero, List.getElem_cons_succ, List.setIfInBounds_toArray, List.set_cons_zero, List.set_cons_succ]
    refine wpAnyH_take (i := 2) (v := .pointer (some ⟨PB, 0, none⟩)) rfl (by kernel_rfl) (by kernel_rfl) (by kernel_rfl) (fun _ _ _ h => h) (Or.inl ⟨by first | rfl | go_simp, fun wx hx => by obtain ⟨hx0, hx1, hx2, hx3, hx4, hx5, hx6, hx7, hx8⟩ := hx; go_simp⟩) hS ?_
    try simp only [Act.put, List.getElem_toArray, List.getElem_cons_zero, List.getElem_cons_succ, List.setIfInBounds_toArray, List.set_cons_zero, List.set_cons_succ]
    refine wpAnyH_take (i := 3) (v := .pointer (some ⟨PB, 25, none⟩)) rfl (by kernel_rfl) (by kernel_rfl) (by kernel_rfl) (fun _ _ _ h => h) (Or.inl ⟨by first | rfl | go_simp, fun wx hx => by obtain ⟨hx0, hx1, hx2, hx3, hx4, hx5, hx6, hx7, hx8⟩ := hx; go_simp⟩) hS ?_
    try simp only [Act.put, List.getElem_toArray, List.getElem_cons_zero, List.getElem_cons_succ, List.setIfInBounds_toArray, List.set_cons_zero, List.set_cons_succ]
    refine wpAnyH_take (i := 5) (v := .agg #[.int .i64 z0, .int .i64 z1, .int .i64 z2, .int .i64 z3, .int .i64 z4, .int .i64 z5', .int .i64 z6, .int .i64 z7, .int .i64 z8]) rfl (by kernel_rfl) (by kernel_rfl) (by kernel_rfl) (fun _ _ _ h => h) (Or.inl ⟨by first | rfl | go_simp, fun wx hx => by obtain ⟨hx0, hx1, hx2, hx3, hx4, hx5, hx6, hx7, hx8⟩ := hx; go_simp⟩) hS ?_
    try simp only [Act.put, List.getElem_toArray, List.getElem_cons_zero, List.getElem_cons_succ, List.setIfInBounds_toArray, List.set_cons_zero, List.set_cons_succ]
    refine wpAnyH_ready (rs := [4, 6]) (by kernel_rfl) (by simp) ?_
    refine AllReadyH.cons rfl (fun K hK => ?_) (AllReadyH.cons rfl (fun K hK => ?_) AllReadyH.nil)
    ·rw [if_pos (by first | rfl | go_simp)]
     go_simp
     refine hK.out _ _ (⟨t0, t1, t2, t3, t4, t5, t6, t7, t8⟩) (fun hS2 => ?_)
     try simp only [Act.put, List.getElem_toArray, List.getElem_cons_zero, List.getElem_cons_succ, List.setIfInBounds_toArray, List.set_cons_zero, List.set_cons_succ]
     clear hK K
     refine wpAnyH_ready (rs := [6]) (by kernel_rfl) (by simp) ?_
     refine AllReadyH.cons rfl (fun K hK => ?_) AllReadyH.nil
     rw [if_pos (by first | rfl | go_simp)]
     go_simp
     refine hK.out _ _ (TB.out) (fun hS3 => ?_)
     try simp only [Act.put, List.getElem_toArray, List.getElem_cons_zero, List.getElem_cons_succ, List.setIfInBounds_toArray, List.set_cons_zero, List.set_cons_succ]
     clear hK K
     refine wpAnyH_ready (rs := [7]) (by kernel_rfl) (by simp) ?_
     refine AllReadyH.cons rfl (fun K hK => ?_) AllReadyH.nil
     rw [if_pos (by first | rfl | go_simp)]
     rw [← hWB]
     refine wp_append_at _ _ 87 rfl (T + 1) 116 i0 (.agg #[.int .i64 0, .int .i64 0, .int .i64 0, .int .i64 0, .int .i64 0, .int .i64 0, .int .i64 0, .int .i64 0, .int .i64 0]) 9 72 Tryz.underlying87 hi0 hy0 hy1 hy2 rfl (by decide) (.slice ut m ct) m L rfl OB.out ⟨WA.heap.size, 0, none⟩ 1 1 [.int .i64 z0, .int .i64 z1, .int .i64 z2, .int .i64 z3, .int .i64 z4, .int .i64 z5', .int .i64 z6, .int .i64 z7, .int .i64 z8] rfl rfl NB.out (by intro u hu; simp at hu; rcases hu with rfl | rfl | rfl | rfl | rfl | rfl | rfl | rfl | rfl <;> rfl) (by unfold maxLen; omega) (by omega) hwB ?_
     intro v6 w6 ho6 hg6 hn6 hat6
     obtain ⟨u6, d6, rfl⟩ := ownG_shape ho6
     have hb6 : w6.heap[T]? = WA.heap[T]? := (hg6.block _ HLB.out.1 (fun e => HNE.out e.symm)).trans HLB.out.2.2
     have T6 := hideP (HTB.out w6 hb6)
     have P6 : Hid (ParB w6 PB z5 (.slice va vn vc) (.slice (some ⟨B, 0, none⟩) N cap) (.slice ut m ct) (.slice none 0 0)) := hideP (PBk.out.keep (hg6.block PB HLB.out.2.1 (fun e => HTP.out e.symm)))
     have c25B := P6.out.c25
     have fz6 := P6.out.free
     have O6 : Hid (w6.ownsRow (T + 1) 116 9 (.slice u6 (m + 1) d6) (m + 1) (L ++ [.int .i64 z0, .int .i64 z1, .int .i64 z2, .int .i64 z3, .int .i64 z4, .int .i64 z5', .int .i64 z6, .int .i64 z7, .int .i64 z8])) := hideP ho6
     have T7 := hideP (HTB.out (w6.setCell ⟨PB, 25, none⟩ (.slice u6 (m + 1) d6)) ((Below.heap_setCell _ _ _ _ (by simp; have := HPT.out; omega)).trans hb6))
     have hP6l : PB < w6.heap.size := P6.out.lt
     have G6 := hideP hg6
     have HB6 := hideP hb6
     clear ho6 hg6 hn6 hat6 hb6
     refine hK.out _ _ T6.out (fun hS6 => ?_)
     try simp only [Act.put, List.getElem_toArray, List.getElem_cons_zero, List.getElem_cons_succ, List.setIfInBounds_toArray, List.set_cons_zero, List.set_cons_succ]
     clear hK K
     refine wpAnyH_take (i := 8) (v := .pointer (some ⟨PB, 0, none⟩)) rfl (by kernel_rfl) (by kernel_rfl) (by kernel_rfl) (fun _ _ _ h => h) (Or.inl ⟨by first | rfl | go_simp, fun wx hx => by obtain ⟨hx0, hx1, hx2, hx3, hx4, hx5, hx6, hx7, hx8⟩ := hx; go_simp⟩) hS6 ?_
     try simp only [Act.put, List.getElem_toArray, List.getElem_cons_zero, List.getElem_cons_succ, List.setIfInBounds_toArray, List.set_cons_zero, List.set_cons_succ]
     refine wpAnyH_take (i := 9) (v := .pointer (some ⟨PB, 25, none⟩)) rfl (by kernel_rfl) (by kernel_rfl) (by kernel_rfl) (fun _ _ _ h => h) (Or.inl ⟨by first | rfl | go_simp, fun wx hx => by obtain ⟨hx0, hx1, hx2, hx3, hx4, hx5, hx6, hx7, hx8⟩ := hx; go_simp⟩) hS6 ?_
     try simp only [Act.put, List.getElem_toArray, List.getElem_cons_zero, List.getElem_cons_succ, List.setIfInBounds_toArray, List.set_cons_zero, List.set_cons_succ]
     refine wpAnyH_ready (rs := [10]) (by kernel_rfl) (by simp) ?_
     refine AllReadyH.cons rfl (fun K hK => ?_) AllReadyH.nil
     rw [if_pos (by first | rfl | go_simp)]
     go_simp
     refine hK.out _ _ (T7.out) (fun _ => ?_)
     try simp only [Act.put, List.getElem_toArray, List.getElem_cons_zero, List.getElem_cons_succ, List.setIfInBounds_toArray, List.set_cons_zero, List.set_cons_succ]
     clear hK K
     refine wpAnyH_done (by kernel_rfl) ?_ _
     obtain ⟨W7, hW7⟩ : ∃ W7, W7 = w6.setCell ⟨PB, 25, none⟩ (.slice u6 (m + 1) d6) := ⟨_, rfl⟩
     rw [← hW7]
     have HNP : Hid ((Value.slice u6 (m + 1) d6).ownBlock ≠ some PB) := hideP (fun e => by have := (World.ownsRow.lt O6.out _ e).1; have := HPT.out; omega)
     have HNT : Hid ((Value.slice u6 (m + 1) d6).ownBlock ≠ some T) := hideP (fun e => by have := (World.ownsRow.lt O6.out _ e).1; omega)
     have P7 : Hid (ParB W7 PB z5 (.slice va vn vc) (.slice (some ⟨B, 0, none⟩) N cap) (.slice u6 (m + 1) d6) (.slice none 0 0)) := hideP (by rw [hW7]; exact P6.out.sums)
     have O7 : Hid (W7.ownsRow (T + 1) 116 9 (.slice u6 (m + 1) d6) (m + 1) (L ++ [.int .i64 z0, .int .i64 z1, .int .i64 z2, .int .i64 z3, .int .i64 z4, .int .i64 z5', .int .i64 z6, .int .i64 z7, .int .i64 z8])) := hideP (by rw [hW7]; exact ownG_other O6.out HNP.out 25 _)
     have F7 : Hid (Fr PB w W7) := hideP (by
      rw [hW7]
      refine Fr.set ?_ _ _
      refine ⟨G6.out.os.trans FB.out.1, G6.out.tape.trans FB.out.2.1, G6.out.output.trans FB.out.2.2.1, Nat.le_trans FB.out.2.2.2.1 G6.out.size, fun b hb hn => ?_⟩
      exact (G6.out.block b (Nat.lt_of_lt_of_le hb FB.out.2.2.2.1) (fun e => by have := (World.ownsRow.lt OB.out b e.symm).1; have := HWT.out; omega)).trans (FB.out.2.2.2.2 b hb hn))
     have hbT : W7.heap[T]? = WA.heap[T]? := by rw [hW7]; exact (Below.heap_setCell _ _ _ _ (by simp; have := HPT.out; omega)).trans HB6.out
     have I7 : Hid (IntsL W7 T 116 ZS) := hideP (hbT.trans IA.out)
     have hbB : W7.heap[B]? = w1.heap[B]? := by
      rw [hW7]
      refine (Below.heap_setCell _ _ _ _ (by simp; have := hBP.out; omega)).trans ?_
      exact (G6.out.block B HBL.out.1 (fun e => by have := (World.ownsRow.lt OB.out B e.symm).1; have := HTB1.out; omega)).trans HBL.out.2
     have HBB := hideP hbB
     obtain ⟨j0, j1, j2, j3⟩ := HIC.out W7 (by
      rw [hW7]
      refine (Below.heap_setCell _ _ _ _ (by simp; have := HIB.out; omega)).trans ?_
      exact (G6.out.block _ HIL.out.1 (fun e => by have := (World.ownsRow.lt O5.out _ e.symm).2; have := HIL.out; have := HIB.out; omega)).trans HIL.out.2)
     have hP7l : PB < W7.heap.size := P7.out.lt
     clear hW7 c25B fz6 hS hS2 hS3 hS6 hbT hbB
     go_wp2_with fail
     refine (MC.out _ I7.out).mono ?_
     rintro e w8 ⟨⟨vr, rfl⟩, hi8, hf8⟩
     have HR8 : Hid (ParB w8 PB z5 (.slice va vn vc) (.slice (some ⟨B, 0, none⟩) N cap) (.slice u6 (m + 1) d6) (.slice none 0 0)) := hideP (P7.out.keep (hf8.2.2.2.2 PB hP7l (by have := HPT.out; omega)))
     have HI8 := hideP hi8
     have HO8 : Hid (w8.ownsRow (T + 1) 116 9 (.slice u6 (m + 1) d6) (m + 1) (L ++ [.int .i64 z0, .int .i64 z1, .int .i64 z2, .int .i64 z3, .int .i64 z4, .int .i64 z5', .int .i64 z6, .int .i64 z7, .int .i64 z8])) := hideP (by
      obtain ⟨h0, h | ⟨gg, cap', cur, e, hgb, hb, hr'⟩⟩ := O7.out
      ·exact ⟨h0, .inl h⟩
      ·exact ⟨h0, .inr ⟨gg, cap', cur, e, hgb, (hf8.2.2.2.2 gg (Array.getElem?_eq_some_iff.1 hb).1 (by omega)).trans hb, hr'⟩⟩)
     have HF8 : Hid (Fr PB w w8) := hideP ⟨hf8.1.trans F7.out.1, hf8.2.1.trans F7.out.2.1, hf8.2.2.1.trans F7.out.2.2.1, Nat.le_trans F7.out.2.2.2.1 hf8.2.2.2.1, fun b hb hn => (hf8.2.2.2.2 b (Nat.lt_of_lt_of_le hb F7.out.2.2.2.1) (by have := HWT.out; omega)).trans (F7.out.2.2.2.2 b hb hn)⟩
     have HB8 : Hid (w8.heap[B]? = w1.heap[B]?) := hideP ((hf8.2.2.2.2 B (by have h := HBB.out; have h1 := hBP.out.2; exact (Array.getElem?_eq_some_iff.1 (h.trans (Array.getElem?_eq_getElem h1))).1) (by have := HTB1.out; omega)).trans HBB.out)
     clear hi8 hf8 j0 j1 j2 j3
     go_wp2
     go_roundw
     case rel => exact ⟨k + 1, _, m + 1, _, by omega, by go_num, hideP ⟨by rw [HMK.out.1], by rw [HMK.out.2, flatM_succ, ← HZS.out, HZE.out]⟩, HR8, (by rw [← HZT.out]; exact HI8), HO8, HF8, HB8⟩
     case measure => simp [intOf]; omega
    ·rw [if_pos (by first | rfl | go_simp)]
     go_simp
     refine hK.out _ _ (TB.out) (fun hS2 => ?_)
     try simp only [Act.put, List.getElem_toArray, List.getElem_cons_zero, List.getElem_cons_succ, List.setIfInBounds_toArray, List.set_cons_zero, List.set_cons_succ]
     clear hK K
     have c25W : (WA.alloc (.cells #[.int .i64 z0, .int .i64 z1, .int .i64 z2, .int .i64 z3, .int .i64 z4, .int .i64 z5', .int .i64 z6, .int .i64 z7, .int .i64 z8] 116)).drew.cell? ⟨PB, 25, none⟩ = some (.slice ut m ct) := by rw [← hWB]; exact PBk.out.c25
     refine wpAnyH_ready (rs := [4]) (by kernel_rfl) (by simp) ?_
     refine AllReadyH.cons rfl (fun K hK => ?_) AllReadyH.nil
     rw [if_pos (by first | rfl | go_simp)]
     go_simp
     refine hK.out _ _ (TB.out) (fun hS3 => ?_)
     try simp only [Act.put, List.getElem_toArray, List.getElem_cons_zero, List.getElem_cons_succ, List.setIfInBounds_toArray, List.set_cons_zero, List.set_cons_succ]
     clear hK K
     refine wpAnyH_ready (rs := [7]) (by kernel_rfl) (by simp) ?_
     refine AllReadyH.cons rfl (fun K hK => ?_) AllReadyH.nil
     rw [if_pos (by first | rfl | go_simp)]
     rw [← hWB]
     refine wp_append_at _ _ 87 rfl (T + 1) 116 i0 (.agg #[.int .i64 0, .int .i64 0, .int .i64 0, .int .i64 0, .int .i64 0, .int .i64 0, .int .i64 0, .int .i64 0, .int .i64 0]) 9 72 Tryz.underlying87 hi0 hy0 hy1 hy2 rfl (by decide) (.slice ut m ct) m L rfl OB.out ⟨WA.heap.size, 0, none⟩ 1 1 [.int .i64 z0, .int .i64 z1, .int .i64 z2, .int .i64 z3, .int .i64 z4, .int .i64 z5', .int .i64 z6, .int .i64 z7, .int .i64 z8] rfl rfl NB.out (by intro u hu; simp at hu; rcases hu with rfl | rfl | rfl | rfl | rfl | rfl | rfl | rfl | rfl <;> rfl) (by unfold maxLen; omega) (by omega) hwB ?_
     intro v6 w6 ho6 hg6 hn6 hat6
     obtain ⟨u6, d6, rfl⟩ := ownG_shape ho6
     have hb6 : w6.heap[T]? = WA.heap[T]? := (hg6.block _ HLB.out.1 (fun e => HNE.out e.symm)).trans HLB.out.2.2
     have T6 := hideP (HTB.out w6 hb6)
     have P6 : Hid (ParB w6 PB z5 (.slice va vn vc) (.slice (some ⟨B, 0, none⟩) N cap) (.slice ut m ct) (.slice none 0 0)) := hideP (PBk.out.keep (hg6.block PB HLB.out.2.1 (fun e => HTP.out e.symm)))
     have c25B := P6.out.c25
     have fz6 := P6.out.free
     have O6 : Hid (w6.ownsRow (T + 1) 116 9 (.slice u6 (m + 1) d6) (m + 1) (L ++ [.int .i64 z0, .int .i64 z1, .int .i64 z2, .int .i64 z3, .int .i64 z4, .int .i64 z5', .int .i64 z6, .int .i64 z7, .int .i64 z8])) := hideP ho6
     have T7 := hideP (HTB.out (w6.setCell ⟨PB, 25, none⟩ (.slice u6 (m + 1) d6)) ((Below.heap_setCell _ _ _ _ (by simp; have := HPT.out; omega)).trans hb6))
     have hP6l : PB < w6.heap.size := P6.out.lt
     have G6 := hideP hg6
     have HB6 := hideP hb6
     clear ho6 hg6 hn6 hat6 hb6
     refine hK.out _ _ T6.out (fun hS6 => ?_)
     try simp only [Act.put, List.getElem_toArray, List.getElem_cons_zero, List.getElem_cons_succ, List.setIfInBounds_toArray, List.set_cons_zero, List.set_cons_succ]
     clear hK K
     refine wpAnyH_take (i := 8) (v := .pointer (some ⟨PB, 0, none⟩)) rfl (by kernel_rfl) (by kernel_rfl) (by kernel_rfl) (fun _ _ _ h => h) (Or.inl ⟨by first | rfl | go_simp, fun wx hx => by obtain ⟨hx0, hx1, hx2, hx3, hx4, hx5, hx6, hx7, hx8⟩ := hx; go_simp⟩) hS6 ?_
     try simp only [Act.put, List.getElem_toArray, List.getElem_cons_zero, List.getElem_cons_succ, List.setIfInBounds_toArray, List.set_cons_zero, List.set_cons_succ]
     refine wpAnyH_take (i := 9) (v := .pointer (some ⟨PB, 25, none⟩)) rfl (by kernel_rfl) (by kernel_rfl) (by kernel_rfl) (fun _ _ _ h => h) (Or.inl ⟨by first | rfl | go_simp, fun wx hx => by obtain ⟨hx0, hx1, hx2, hx3, hx4, hx5, hx6, hx7, hx8⟩ := hx; go_simp⟩) hS6 ?_
     try simp only [Act.put, List.getElem_toArray, List.getElem_cons_zero, List.getElem_cons_succ, List.setIfInBounds_toArray, List.set_cons_zero, List.set_cons_succ]
     refine wpAnyH_ready (rs := [10]) (by kernel_rfl) (by simp) ?_
     refine AllReadyH.cons rfl (fun K hK => ?_) AllReadyH.nil
     rw [if_pos (by first | rfl | go_simp)]
     go_simp
     refine hK.out _ _ (T7.out) (fun _ => ?_)
     try simp only [Act.put, List.getElem_toArray, List.getElem_cons_zero, List.getElem_cons_succ, List.setIfInBounds_toArray, List.set_cons_zero, List.set_cons_succ]
     clear hK K
     refine wpAnyH_done (by kernel_rfl) ?_ _
     obtain ⟨W7, hW7⟩ : ∃ W7, W7 = w6.setCell ⟨PB, 25, none⟩ (.slice u6 (m + 1) d6) := ⟨_, rfl⟩
     rw [← hW7]
     have HNP : Hid ((Value.slice u6 (m + 1) d6).ownBlock ≠ some PB) := hideP (fun e => by have := (World.ownsRow.lt O6.out _ e).1; have := HPT.out; omega)
     have HNT : Hid ((Value.slice u6 (m + 1) d6).ownBlock ≠ some T) := hideP (fun e => by have := (World.ownsRow.lt O6.out _ e).1; omega)
     have P7 : Hid (ParB W7 PB z5 (.slice va vn vc) (.slice (some ⟨B, 0, none⟩) N cap) (.slice u6 (m + 1) d6) (.slice none 0 0)) := hideP (by rw [hW7]; exact P6.out.sums)
     have O7 : Hid (W7.ownsRow (T + 1) 116 9 (.slice u6 (m + 1) d6) (m + 1) (L ++ [.int .i64 z0, .int .i64 z1, .int .i64 z2, .int .i64 z3, .int .i64 z4, .int .i64 z5', .int .i64 z6, .int .i64 z7, .int .i64 z8])) := hideP (by rw [hW7]; exact ownG_other O6.out HNP.out 25 _)
     have F7 : Hid (Fr PB w W7) := hideP (by
      rw [hW7]
      refine Fr.set ?_ _ _
      refine ⟨G6.out.os.trans FB.out.1, G6.out.tape.trans FB.out.2.1, G6.out.output.trans FB.out.2.2.1, Nat.le_trans FB.out.2.2.2.1 G6.out.size, fun b hb hn => ?_⟩
      exact (G6.out.block b (Nat.lt_of_lt_of_le hb FB.out.2.2.2.1) (fun e => by have := (World.ownsRow.lt OB.out b e.symm).1; have := HWT.out; omega)).trans (FB.out.2.2.2.2 b hb hn))
     have hbT : W7.heap[T]? = WA.heap[T]? := by rw [hW7]; exact (Below.heap_setCell _ _ _ _ (by simp; have := HPT.out; omega)).trans HB6.out
     have I7 : Hid (IntsL W7 T 116 ZS) := hideP (hbT.trans IA.out)
     have hbB : W7.heap[B]? = w1.heap[B]? := by
      rw [hW7]
      refine (Below.heap_setCell _ _ _ _ (by simp; have := hBP.out; omega)).trans ?_
      exact (G6.out.block B HBL.out.1 (fun e => by have := (World.ownsRow.lt OB.out B e.symm).1; have := HTB1.out; omega)).trans HBL.out.2
     have HBB := hideP hbB
     obtain ⟨j0, j1, j2, j3⟩ := HIC.out W7 (by
      rw [hW7]
      refine (Below.heap_setCell _ _ _ _ (by simp; have := HIB.out; omega)).trans ?_
      exact (G6.out.block _ HIL.out.1 (fun e => by have := (World.ownsRow.lt O5.out _ e.symm).2; have := HIL.out; have := HIB.out; omega)).trans HIL.out.2)
     have hP7l : PB < W7.heap.size := P7.out.lt
     clear hW7 c25B fz6 hS hS2 hS3 hS6 hbT hbB
     go_wp2_with fail
     refine (MC.out _ I7.out).mono ?_
     rintro e w8 ⟨⟨vr, rfl⟩, hi8, hf8⟩
     have HR8 : Hid (ParB w8 PB z5 (.slice va vn vc) (.slice (some ⟨B, 0, none⟩) N cap) (.slice u6 (m + 1) d6) (.slice none 0 0)) := hideP (P7.out.keep (hf8.2.2.2.2 PB hP7l (by have := HPT.out; omega)))
     have HI8 := hideP hi8
     have HO8 : Hid (w8.ownsRow (T + 1) 116 9 (.slice u6 (m + 1) d6) (m + 1) (L ++ [.int .i64 z0, .int .i64 z1, .int .i64 z2, .int .i64 z3, .int .i64 z4, .int .i64 z5', .int .i64 z6, .int .i64 z7, .int .i64 z8])) := hideP (by
      obtain ⟨h0, h | ⟨gg, cap', cur, e, hgb, hb, hr'⟩⟩ := O7.out
      ·exact ⟨h0, .inl h⟩
      ·exact ⟨h0, .inr ⟨gg, cap', cur, e, hgb, (hf8.2.2.2.2 gg (Array.getElem?_eq_some_iff.1 hb).1 (by omega)).trans hb, hr'⟩⟩)
     have HF8 : Hid (Fr PB w w8) := hideP ⟨hf8.1.trans F7.out.1, hf8.2.1.trans F7.out.2.1, hf8.2.2.1.trans F7.out.2.2.1, Nat.le_trans F7.out.2.2.2.1 hf8.2.2.2.1, fun b hb hn => (hf8.2.2.2.2 b (Nat.lt_of_lt_of_le hb F7.out.2.2.2.1) (by have := HWT.out; omega)).trans (F7.out.2.2.2.2 b hb hn)⟩
     have HB8 : Hid (w8.heap[B]? = w1.heap[B]?) := hideP ((hf8.2.2.2.2 B (by have h := HBB.out; have h1 := hBP.out.2; exact (Array.getElem?_eq_some_iff.1 (h.trans (Array.getElem?_eq_getElem h1))).1) (by have := HTB1.out; omega)).trans HBB.out)
     clear hi8 hf8 j0 j1 j2 j3
     go_wp2
     go_roundw
     case rel => exact ⟨k + 1, _, m + 1, _, by omega, by go_num, hideP ⟨by rw [HMK.out.1], by rw [HMK.out.2, flatM_succ, ← HZS.out, HZE.out]⟩, HR8, (by rw [← HZT.out]; exact HI8), HO8, HF8, HB8⟩
     case measure => simp [intOf]; omega
  ·have hki : ¬ (k : Int) < (N : Int) := by omega
   go_wp2
   go_end0
   have hkN2 : k = N := by omega
   refine ⟨⟨_, rfl⟩, ⟨B, cap, sv, HPr.out, ?_, ?_⟩, HFr.out⟩
   rotate_left
   ·have h1 := HOr.out
    rw [HMK.out.1, HMK.out.2, hkN2] at h1
    obtain ⟨h0, h | ⟨gg, cap', cur, e, hgb, hb, hr'⟩⟩ := h1
    ·exact ⟨h0, .inl h⟩
    ·exact ⟨h0, .inr ⟨gg, cap', cur, e, by have := HWT.out; omega, hb, hr'⟩⟩
   obtain ⟨h0, h | ⟨gg, cap', cur, e, hgb, hb, hr'⟩⟩ := U1.out
   ·exact ⟨h0, .inl h⟩
   ·obtain ⟨rfl, rfl⟩ : B = gg ∧ cap = cap' := by simpa using e
    exact ⟨h0, .inr ⟨_, _, cur, rfl, hgb, HBr.out.trans hb, hr'⟩⟩
end Go.Proofs.YtlohbaoigfaneaaGreat
