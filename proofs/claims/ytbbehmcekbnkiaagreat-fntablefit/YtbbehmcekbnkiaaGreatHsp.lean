import Derived.Test.YtbbehmcekbnkiaaGreatSnd
import Derived.Test.YtbbehmcekbnkiaaGreatLok
import Derived.Test.YtbbehmcekbnkiaaGreatFng
import Derived.Test.YtbbehmcekbnkiaaGreatSdp
namespace Go.Proofs.YtbbehmcekbnkiaaGreat
open Go.RowKit
set_option linter.unusedVariables false
set_option linter.unusedSimpArgs false
def modeB (mode : Int) : Bool := decide (0 <= mode) && decide (mode <= 2)
def packB (xs : List Nd) (mode size : Int) : Bool := canB xs && modeB mode && fitsB size
def askB (xs : List Nd) (mode size : Int) : Bool := modeB mode && fitsB size && listB xs
theorem canB_okD (xs : List Nd) : canB xs = (decide (xs.length < 20000) && okD 39 xs.length 0 [] xs) := by
 unfold canB
 rw [okD_split, Bool.and_assoc]
set_option maxRecDepth 20000 in
set_option maxHeartbeats 1600000 in
theorem nest_big {ao : Option Addr} {n cap : Nat} {w : World} (h : 20000 < n) (h2 : n <= 1048576) :
 Calls Tryz.prog 107 #[.slice ao n cap] w fun e w' => e = .returned (.int .i64 (-1)) /\ w' = w := by
 have hni : (20000 : Int) < (n : Int) := by omega
 go_enter Tryz.func107, Tryz.ntmps107
 go_wp2
 go_ret
 exact ⟨rfl, rfl⟩
theorem nest_all {v : Value} {xs : List Nd} {w : World} (h : NRow 0 w v xs) (hs : xs.length <= 1048576) :
 Calls Tryz.prog 107 #[v] w fun e w' => ∃ m : Int, e = .returned (.int .i64 m) /\ (decide (xs.length < 20000) && (decide (0 <= m) && decide (m <= 40))) = canB xs /\ Below w.heap.size w w' := by
 by_cases hb : xs.length <= 20000
 ·refine (nestD_any h hb).mono ?_
  rintro e w1 ⟨m, rfl, hm, hw⟩
  refine ⟨m, rfl, ?_, hw⟩
  have h1 := hm 39
  rw [canB_okD, <- h1]
  rfl
 ·obtain ⟨ao, n, cap, rfl, hl, hr⟩ := h
  refine (nest_big (by omega) (by omega)).mono ?_
  rintro e w1 ⟨rfl, rfl⟩
  refine ⟨-1, rfl, ?_, Below.refl _ _⟩
  rw [canB_okD, decide_eq_false (by omega)]
  rfl
set_option maxRecDepth 20000 in
set_option maxHeartbeats 1600000 in
theorem specCan_any {v : Value} {xs : List Nd} {w : World} (mode size : Int) (h : NRow 0 w v xs) (hs : xs.length <= 1048576) :
 Calls Tryz.prog 86 #[v, .int .i64 mode, .int .i64 size] w fun e w' => e = .returned (.bool (packB xs mode size)) /\ Below w.heap.size w w' := by
 have hcall := nest_all h hs
 obtain ⟨ao, n, cap, rfl, hl, hr⟩ := h
 have hn : n <= 1048576 := by omega
 obtain ⟨R, hR⟩ := exq (packB xs mode size)
 rw [<- hR]
 have HR := hideP hR
 have HL := hideP hl
 have HC := hideP hcall
 clear hR hl hcall hr
 go_enter Tryz.func86, Tryz.ntmps86
 go_wp2_with fail
 refine HC.out.mono ?_
 rintro e w1 ⟨m, rfl, hm, hb⟩
 have HM := hideP hm
 have HB := hideP hb
 clear hm hb
 by_cases h1 : 0 <= m
 ·have Hh1 := hideP h1
  have dh1 : decide (0 <= m) = true := decide_eq_true h1
  clear h1
  by_cases h2 : m <= 40
  ·have Hh2 := hideP h2
   have dh2 : decide (m <= 40) = true := decide_eq_true h2
   clear h2
   by_cases h3 : (n : Int) < 20000
   ·have Hh3 := hideP h3
    have dh3 : decide ((n : Int) < 20000) = true := decide_eq_true h3
    clear h3
    have HCB : Hid (canB xs = true) := hideP (by rw [<- HM.out, decide_eq_true Hh1.out, decide_eq_true Hh2.out, decide_eq_true (by rw [HL.out]; have := Hh3.out; omega)]; rfl)
    by_cases h4 : 0 <= mode
    ·have Hh4 := hideP h4
     have dh4 : decide (0 <= mode) = true := decide_eq_true h4
     clear h4
     by_cases h5 : mode <= 2
     ·have Hh5 := hideP h5
      have dh5 : decide (mode <= 2) = true := decide_eq_true h5
      clear h5
      go_wp2_with fail
      refine (specFits_any size _).mono ?_
      rintro e w2 ⟨rfl, rfl⟩
      go_wp2
      go_ret
      refine ⟨?_, HB.out⟩
      have e : R = fitsB size := by rw [HR.out]; unfold packB modeB; rw [HCB.out, decide_eq_true Hh4.out, decide_eq_true Hh5.out]; rfl
      rw [e]
      rfl
     ·have Hh5 := hideP h5
      have dh5 : decide (mode <= 2) = false := decide_eq_false h5
      clear h5
      go_wp2
      go_ret
      refine ⟨?_, HB.out⟩
      have e : R = false := by rw [HR.out]; unfold packB modeB; rw [decide_eq_false (p := mode <= 2) (by have := Hh5.out; omega)]; simp
      rw [e]
      rfl
    ·have Hh4 := hideP h4
     have dh4 : decide (0 <= mode) = false := decide_eq_false h4
     clear h4
     go_wp2
     go_ret
     refine ⟨?_, HB.out⟩
     have e : R = false := by rw [HR.out]; unfold packB modeB; rw [decide_eq_false (p := 0 <= mode) (by have := Hh4.out; omega)]; simp
     rw [e]
     rfl
   ·have Hh3 := hideP h3
    have dh3 : decide ((n : Int) < 20000) = false := decide_eq_false h3
    clear h3
    go_wp2
    go_ret
    refine ⟨?_, HB.out⟩
    have e : R = false := by rw [HR.out]; unfold packB; rw [<- HM.out, decide_eq_false (by rw [HL.out]; have := Hh3.out; omega)]; simp
    rw [e]
    rfl
  ·have Hh2 := hideP h2
   have dh2 : decide (m <= 40) = false := decide_eq_false h2
   clear h2
   go_wp2
   go_ret
   refine ⟨?_, HB.out⟩
   have e : R = false := by rw [HR.out]; unfold packB; rw [<- HM.out, decide_eq_false (p := m <= 40) (by have := Hh2.out; omega)]; simp
   rw [e]
   rfl
 ·have Hh1 := hideP h1
  have dh1 : decide (0 <= m) = false := decide_eq_false h1
  clear h1
  go_wp2
  go_ret
  refine ⟨?_, HB.out⟩
  have e : R = false := by rw [HR.out]; unfold packB; rw [<- HM.out, decide_eq_false (p := 0 <= m) (by have := Hh1.out; omega)]; simp
  rw [e]
  rfl
set_option maxRecDepth 20000 in
set_option maxHeartbeats 1600000 in
theorem implCan_any {v : Value} {xs : List Nd} {w : World} (mode size : Int) (h : NRow 0 w v xs) (hs : xs.length <= 1048576) :
 Calls Tryz.prog 30 #[v, .int .i64 mode, .int .i64 size] w fun e w' => e = .returned (.bool (askB xs mode size)) /\ Below w.heap.size w w' := by
 have hcall := fun W (hW : W = w) => hW ▸ implListOk_any h hs
 obtain ⟨ao, n, cap, rfl, hl, hr⟩ := h
 obtain ⟨R, hR⟩ := exq (askB xs mode size)
 rw [<- hR]
 have HR := hideP hR
 have HC : Hid (Calls Tryz.prog 36 #[.slice ao n cap] w fun e w' => e = .returned (.bool (listB xs)) /\ Below w.heap.size w w') := hideP (hcall w rfl)
 obtain ⟨L, hL⟩ := exq (listB xs)
 rw [<- hL] at HC
 have HL := hideP hL
 clear hR hl hcall hr hL
 go_enter Tryz.func30, Tryz.ntmps30
 by_cases h4 : 0 <= mode
 ·have Hh4 := hideP h4
  have dh4 : decide (0 <= mode) = true := decide_eq_true h4
  clear h4
  by_cases h5 : mode <= 2
  ·have Hh5 := hideP h5
   have dh5 : decide (mode <= 2) = true := decide_eq_true h5
   clear h5
   go_wp2_with fail
   refine (implFits_any size _).mono ?_
   rintro e w2 ⟨rfl, rfl⟩
   cases hf : fitsB size with
   | false =>
    have HF := hideP hf
    clear hf
    go_wp2
    go_ret
    refine ⟨?_, Below.refl _ _⟩
    have e : R = false := by rw [HR.out]; unfold askB; rw [HF.out]; simp
    rw [e]
    rfl
   | true =>
    have HF := hideP hf
    clear hf
    go_wp2_with fail
    refine HC.out.mono ?_
    rintro e w2 ⟨rfl, hb⟩
    have HB := hideP hb
    clear hb
    go_wp2
    go_ret
    refine ⟨?_, HB.out⟩
    have e : R = L := by rw [HR.out, HL.out]; unfold askB modeB; rw [HF.out, decide_eq_true Hh4.out, decide_eq_true Hh5.out]; rfl
    rw [e]
    rfl
  ·have Hh5 := hideP h5
   have dh5 : decide (mode <= 2) = false := decide_eq_false h5
   clear h5
   go_wp2
   go_ret
   refine ⟨?_, Below.refl _ _⟩
   have e : R = false := by rw [HR.out]; unfold askB modeB; rw [decide_eq_false (p := mode <= 2) (by have := Hh5.out; omega)]; simp
   rw [e]
   rfl
 ·have Hh4 := hideP h4
  have dh4 : decide (0 <= mode) = false := decide_eq_false h4
  clear h4
  go_wp2
  go_ret
  refine ⟨?_, Below.refl _ _⟩
  have e : R = false := by rw [HR.out]; unfold askB modeB; rw [decide_eq_false (p := 0 <= mode) (by have := Hh4.out; omega)]; simp
  rw [e]
  rfl
set_option maxRecDepth 20000 in
set_option maxHeartbeats 8000000 in
theorem specRow_any {v : Value} {xs : List Nd} {w : World} (h : NRow 0 w v xs) (hok : AllOk xs) (hg : ∀ i, i < xs.length -> NdIn (xs.getD i Nd.none)) :
 Calls Tryz.prog 87 #[v] w fun e w' => (∃ u, e = .returned (.tuple #[.int .i64 (rowTo xs (starts xs (xs.length + 1) 0)).w, u, .int .i64 (rowTo xs (starts xs (xs.length + 1) 0)).h, .int .i64 (rowTo xs (starts xs (xs.length + 1) 0)).d]) /\ w'.ownsRow w.heap.size 34 5 u (rowTo xs (starts xs (xs.length + 1) 0)).gs.length (f5 (rowTo xs (starts xs (xs.length + 1) 0)).gs)) /\ Below w.heap.size w w' := by
 have HC : Hid (∀ W, Below w.heap.size w W -> Calls Tryz.prog 108 #[v] W fun e w' => (∃ u, e = .returned u /\ IR w' W.heap.size u (starts xs (xs.length + 1) 0).length (natI (starts xs (xs.length + 1) 0))) /\ Below W.heap.size W w') := hideP (fun W hW => starts_any (h.below ndStable hW) hok.len hok.weak)
 obtain ⟨ao, n, cap, rfl, hl, hr⟩ := h
 have hn : n <= 20000 := by rw [<- hl]; exact hok.len
 have HR : Hid (0 < n -> ∃ b off, ao = some ⟨b, off, none⟩ /\ 0 <= b /\ b < w.heap.size /\ ∀ i, i < n -> ∃ cs : List Value, cs.length = 15 /\ NdR 0 w cs (xs.getD i Nd.none) /\ ∀ j, j < 15 -> w.cell? ⟨b, off + i * 15 + j, none⟩ = cs[j]?) := hideP hr
 obtain ⟨Z, hZ⟩ := exq (starts xs (xs.length + 1) 0)
 rw [<- hZ] at HC
 rw [<- hZ]
 have HZP : Hid (∀ p ∈ Z, p < xs.length) := hideP (fun p hp => starts_lt xs _ _ p (by rw [<- hZ]; exact hp))
 have HRI : Hid (∀ k, k <= Z.length -> RIn (rowTo xs (Z.take k)) k) := hideP (fun k hk => by
  have h1 := rowTo_in xs hg (Z.take k) (fun p hp => HZP.out p (List.mem_of_mem_take hp))
  rw [List.length_take, Nat.min_eq_left hk] at h1
  exact h1)
 have HG := hideP hg
 have HL := hideP hl
 obtain ⟨r, hrz⟩ := exq (Z.length)
 have HRZ := hideP hrz
 have hr20 : r <= 20000 := by
  rw [hrz, hZ]
  have := starts_count (xs := xs) (xs.length + 1) 0
  omega
 clear hr hl hZ hrz hg hok
 obtain ⟨i0, hi, hz0, hz1, hz2⟩ := info_parts Shr.Tryz.info34
 go_enter Tryz.func87, Tryz.ntmps87
 go_wp2_with fail
 refine (HC.out _ (below1 _ _)).mono ?_
 rintro e w1 ⟨⟨va, rfl, hI⟩, hb1⟩
 have J0 : Hid (RInv w w1 va Z (.slice (some ⟨w.heap.size, 0, none⟩) 0 0) []) := hideP ⟨ownG_below (w := w.alloc (.cells #[] 34)) ⟨rfl, .inr ⟨_, _, _, rfl, Nat.le_refl _, heap_alloc_new w _, by simp, by decide, rfl, rfl⟩⟩ hb1, ownG_mono hI (by simp), below_more (below1 _ _) hb1 (by simp)⟩
 obtain ⟨aa, ca, rfl⟩ := ownG_shape hI
 rw [<- HRZ.out]
 clear hI hb1 HC
 go_wp2
 go_loopw [6, 7, 8, 9, 11] (fun sw sh sd su i wr => ∃ (k : Nat) (u : Value) (m : Nat) (s : RS), k <= r /\ i = .int .i64 k /\ Hid (s = rowTo xs (Z.take k)) /\ sw = .int .i64 s.w /\ sh = .int .i64 s.h /\ sd = .int .i64 s.d /\ su = u /\ Hid (m = s.gs.length) /\ Hid (RInv w wr (.slice aa r ca) Z u s.gs)) (fun _ _ _ _ i _ => r - (intOf i).toNat)
 case atStart => exact ⟨0, _, 0, RS.nil, by omega, rfl, hideP rfl, rfl, rfl, rfl, rfl, hideP rfl, by rw [HRZ.out]; exact J0⟩
 case round =>
  obtain ⟨k, u, m, s, hk, rfl, HS, rfl, rfl, rfl, rfl, HM, HJ⟩ := hrel
  by_cases hkr : k < r
  ·have hki : (k : Int) < (r : Int) := by omega
   obtain ⟨p, hp⟩ := exq (Z.getD k 0)
   have hpn : p < n := by
    rw [<- HL.out, hp]
    refine HZP.out _ ?_
    rw [List.getD_eq_getElem?_getD, List.getElem?_eq_getElem (by rw [<- HRZ.out]; exact hkr)]
    exact List.getElem_mem _
   have hpi : (p : Int) < (n : Int) := by omega
   have HTK : Hid (Z.take (k + 1) = Z.take k ++ [p]) := hideP (by rw [hp]; exact take_snoc Z k 0 (by rw [<- HRZ.out]; exact hkr))
   obtain ⟨b, off, rfl, _, hb, hc⟩ := HR.out (by omega)
   obtain ⟨cs, hcl, hRel, hcj⟩ := hc p hpn
   obtain ⟨t, ht⟩ := exq (xs.getD p Nd.none)
   rw [<- ht] at hRel
   have HNI : Hid (NdIn t) := hideP (by rw [ht]; exact HG.out p (by rw [HL.out]; exact hpn))
   have HST : Hid (rowStep s t = rowTo xs (Z.take (k + 1))) := hideP (by rw [HTK.out, rowTo_snoc, <- ht, <- HS.out])
   have hIn : RIn s k := by rw [HS.out]; exact HRI.out k (by rw [<- HRZ.out]; exact hk)
   have HIn := hideP hIn
   obtain ⟨qw1, qw2, qh1, qh2, qd1, qd2, qn, -⟩ := hIn
   obtain ⟨⟨nw1, nw2⟩, ⟨nh1, nh2⟩, ⟨nd1, nd2⟩, ⟨ns1, ns2⟩, -⟩ := HNI.out
   have hm : m <= 20000 := by rw [HM.out]; omega
   obtain ⟨GZ, rfl⟩ : ∃ GZ, aa = some ⟨GZ, 0, none⟩ := by
    rcases HJ.out.row.2 with ⟨_, h0⟩ | ⟨g, c, cur, he, _⟩
    ·rw [<- HRZ.out] at h0; omega
    ·cases he; exact ⟨g, rfl⟩
   have hcz : wr.cell? ⟨GZ, k, none⟩ = some (.int .i64 (p : Int)) := by
    have h0 := HJ.out.row
    rw [<- HRZ.out] at h0
    have h1 := natI_at (j := k) h0 HRZ.out.symm hkr
    rw [<- hp] at h1
    exact h1
   obtain ⟨kd, wd, hh, dp, sh, fo, ch, nn, gs, gp, gpo, gm, gmo, tx, kids⟩ := t
   simp only at nw1 nw2 nh1 nh2 nd1 nd2 ns1 ns2
   rw [show cs = _ from hRel] at hcj
   simp only [Nd.cells] at hcj
   have g0 : wr.cell? ⟨b, off + p * 15, none⟩ = some (.int .i64 kd) := (HJ.out.bel.cell (p := ⟨b, off + p * 15, none⟩) hb).trans (hcj 0 (by omega))
   have g1 : wr.cell? ⟨b, off + p * 15 + 1, none⟩ = some (.int .i64 wd) := (HJ.out.bel.cell (p := ⟨b, off + p * 15 + 1, none⟩) hb).trans (hcj 1 (by omega))
   have g2 : wr.cell? ⟨b, off + p * 15 + 2, none⟩ = some (.int .i64 hh) := (HJ.out.bel.cell (p := ⟨b, off + p * 15 + 2, none⟩) hb).trans (hcj 2 (by omega))
   have g3 : wr.cell? ⟨b, off + p * 15 + 3, none⟩ = some (.int .i64 dp) := (HJ.out.bel.cell (p := ⟨b, off + p * 15 + 3, none⟩) hb).trans (hcj 3 (by omega))
   have g4 : wr.cell? ⟨b, off + p * 15 + 4, none⟩ = some (.int .i64 sh) := (HJ.out.bel.cell (p := ⟨b, off + p * 15 + 4, none⟩) hb).trans (hcj 4 (by omega))
   have g5 : wr.cell? ⟨b, off + p * 15 + 5, none⟩ = some (.int .i64 fo) := (HJ.out.bel.cell (p := ⟨b, off + p * 15 + 5, none⟩) hb).trans (hcj 5 (by omega))
   have g6 : wr.cell? ⟨b, off + p * 15 + 6, none⟩ = some (.int .i64 ch) := (HJ.out.bel.cell (p := ⟨b, off + p * 15 + 6, none⟩) hb).trans (hcj 6 (by omega))
   have g7 : wr.cell? ⟨b, off + p * 15 + 7, none⟩ = some (.int .i64 nn) := (HJ.out.bel.cell (p := ⟨b, off + p * 15 + 7, none⟩) hb).trans (hcj 7 (by omega))
   have g8 : wr.cell? ⟨b, off + p * 15 + 8, none⟩ = some (.int .i64 gs) := (HJ.out.bel.cell (p := ⟨b, off + p * 15 + 8, none⟩) hb).trans (hcj 8 (by omega))
   have g9 : wr.cell? ⟨b, off + p * 15 + 9, none⟩ = some (.int .i64 gp) := (HJ.out.bel.cell (p := ⟨b, off + p * 15 + 9, none⟩) hb).trans (hcj 9 (by omega))
   have g10 : wr.cell? ⟨b, off + p * 15 + 10, none⟩ = some (.int .i64 gpo) := (HJ.out.bel.cell (p := ⟨b, off + p * 15 + 10, none⟩) hb).trans (hcj 10 (by omega))
   have g11 : wr.cell? ⟨b, off + p * 15 + 11, none⟩ = some (.int .i64 gm) := (HJ.out.bel.cell (p := ⟨b, off + p * 15 + 11, none⟩) hb).trans (hcj 11 (by omega))
   have g12 : wr.cell? ⟨b, off + p * 15 + 12, none⟩ = some (.int .i64 gmo) := (HJ.out.bel.cell (p := ⟨b, off + p * 15 + 12, none⟩) hb).trans (hcj 12 (by omega))
   have g13 : wr.cell? ⟨b, off + p * 15 + 13, none⟩ = some (.string tx) := (HJ.out.bel.cell (p := ⟨b, off + p * 15 + 13, none⟩) hb).trans (hcj 13 (by omega))
   have g14 : wr.cell? ⟨b, off + p * 15 + 14, none⟩ = some (.int .i64 kids) := (HJ.out.bel.cell (p := ⟨b, off + p * 15 + 14, none⟩) hb).trans (hcj 14 (by omega))
   clear hc hcj hcl hRel ht hp
   obtain ⟨aw, sh0, sd0, sgs⟩ := s
   simp only at qw1 qw2 qh1 qh2 qd1 qd2 qn
   have N5 : Hid (∀ j u, [Value.int .i64 gs, .int .i64 gp, .int .i64 gpo, .int .i64 gm, .int .i64 gmo][j]? = some u -> ((wr.alloc (.cells #[.int .i64 kd, .int .i64 wd, .int .i64 hh, .int .i64 dp, .int .i64 sh, .int .i64 fo, .int .i64 ch, .int .i64 nn, .int .i64 gs, .int .i64 gp, .int .i64 gpo, .int .i64 gm, .int .i64 gmo, .string tx, .int .i64 kids] 36)).alloc (.cells #[.int .i64 gs, .int .i64 gp, .int .i64 gpo, .int .i64 gm, .int .i64 gmo] 34)).cell? ((⟨wr.heap.size + 1, 0, none⟩ : Addr).add j) = some u) := hideP (by
    have h := new5 (wr.alloc (.cells #[.int .i64 kd, .int .i64 wd, .int .i64 hh, .int .i64 dp, .int .i64 sh, .int .i64 fo, .int .i64 ch, .int .i64 nn, .int .i64 gs, .int .i64 gp, .int .i64 gpo, .int .i64 gm, .int .i64 gmo, .string tx, .int .i64 kids] 36)) (.int .i64 gs) (.int .i64 gp) (.int .i64 gpo) (.int .i64 gm) (.int .i64 gmo) 34
    rw [show (wr.alloc (.cells #[.int .i64 kd, .int .i64 wd, .int .i64 hh, .int .i64 dp, .int .i64 sh, .int .i64 fo, .int .i64 ch, .int .i64 nn, .int .i64 gs, .int .i64 gp, .int .i64 gpo, .int .i64 gm, .int .i64 gmo, .string tx, .int .i64 kids] 36)).heap.size = wr.heap.size + 1 by simp] at h
    exact h)
   have HJ1 : Hid (RInv w (wr.alloc (.cells #[.int .i64 kd, .int .i64 wd, .int .i64 hh, .int .i64 dp, .int .i64 sh, .int .i64 fo, .int .i64 ch, .int .i64 nn, .int .i64 gs, .int .i64 gp, .int .i64 gpo, .int .i64 gm, .int .i64 gmo, .string tx, .int .i64 kids] 36)) (.slice (some ⟨GZ, 0, none⟩) r ca) Z u9 sgs) := hideP (HJ.out.below (below1 _ _))
   have hsz : w.heap.size <= wr.heap.size := HJ.out.bel.size
   have TALL : Hid (tallB ⟨kd, wd, hh, dp, sh, fo, ch, nn, gs, gp, gpo, gm, gmo, tx, kids⟩ = true -> RS.tall ⟨aw, sh0, sd0, sgs⟩ ⟨kd, wd, hh, dp, sh, fo, ch, nn, gs, gp, gpo, gm, gmo, tx, kids⟩ = rowTo xs (Z.take (k + 1))) := hideP (fun h => by rw [<- HST.out]; unfold rowStep; rw [if_pos h])
   have KERN : Hid (kd = 2 -> RS.kern ⟨aw, sh0, sd0, sgs⟩ ⟨kd, wd, hh, dp, sh, fo, ch, nn, gs, gp, gpo, gm, gmo, tx, kids⟩ = rowTo xs (Z.take (k + 1))) := hideP (fun h => by rw [<- HST.out]; exact (rowStep_2 h).symm)
   have GLUE : Hid (kd = 3 -> RS.glue ⟨aw, sh0, sd0, sgs⟩ ⟨kd, wd, hh, dp, sh, fo, ch, nn, gs, gp, gpo, gm, gmo, tx, kids⟩ = rowTo xs (Z.take (k + 1))) := hideP (fun h => by rw [<- HST.out]; exact (rowStep_3 h).symm)
   have NONE : Hid (kd ≠ 1 -> kd ≠ 5 -> kd ≠ 6 -> kd ≠ 7 -> kd ≠ 2 -> kd ≠ 3 -> (⟨aw, sh0, sd0, sgs⟩ : RS) = rowTo xs (Z.take (k + 1))) := hideP (fun h1 h5 h6 h7 h2 h3 => by rw [<- HST.out]; exact (rowStep_0 h1 h2 h3 h5 h6 h7).symm)
   clear HS HNI HST HIn HTK HRI HZP HG HR HL
   go_wp2_with (first
    | (go_at_call 109; refine (Shr.mostI_any _ _ _).mono ?_; rintro e w2 ⟨rfl, rfl⟩)
    | (at_builtin; refine wpList_append_own_at _ rfl _ _ 127 rfl w.heap.size 34 i0 (.agg #[.int .i64 0, .int .i64 0, .int .i64 0, .int .i64 0, .int .i64 0]) 5 40 Tryz.underlying127 hi hz0 hz1 hz2 rfl (by decide) u9 m (f5 sgs) rfl (World.ownsRow.alloc (RInv.own' HJ1.out HM.out) _) ⟨wr.heap.size + 1, 0, none⟩ 1 1 [.int .i64 gs, .int .i64 gp, .int .i64 gpo, .int .i64 gm, .int .i64 gmo] rfl rfl N5.out (one5 _ _ _ _ _) (by unfold maxLen; omega) (by omega) (by simp; omega) ?_; intro v6 w6 hown6 hgrow6 hnil6 hlies6; have J6 : Hid (RInv w w6 (.slice (some ⟨GZ, 0, none⟩) r ca) Z v6 (sgs ++ [⟨gs, gp, gpo, gm, gmo⟩])) := hideP (RInv.put HJ1.out (by rw [<- HM.out]; exact hown6) hgrow6); clear hown6 hgrow6 hnil6 hlies6))
   ·exact ⟨⟨k + 1, _, m, RS.tall ⟨aw, sh0, sd0, sgs⟩ ⟨kd, wd, hh, dp, sh, fo, ch, nn, gs, gp, gpo, gm, gmo, tx, kids⟩, by omega, by go_num, hideP (TALL.out (by unfold tallB; simp only [‹(kd == 1) = true›, Bool.or_true, Bool.true_or])), rfl, rfl, rfl, rfl, HM, HJ1⟩, by simp [intOf]; omega⟩
   ·exact ⟨⟨k + 1, _, m, RS.tall ⟨aw, sh0, sd0, sgs⟩ ⟨kd, wd, hh, dp, sh, fo, ch, nn, gs, gp, gpo, gm, gmo, tx, kids⟩, by omega, by go_num, hideP (TALL.out (by unfold tallB; simp only [‹(kd == 5) = true›, Bool.or_true, Bool.true_or])), rfl, rfl, rfl, rfl, HM, HJ1⟩, by simp [intOf]; omega⟩
   ·exact ⟨⟨k + 1, _, m, RS.tall ⟨aw, sh0, sd0, sgs⟩ ⟨kd, wd, hh, dp, sh, fo, ch, nn, gs, gp, gpo, gm, gmo, tx, kids⟩, by omega, by go_num, hideP (TALL.out (by unfold tallB; simp only [‹(kd == 6) = true›, Bool.or_true, Bool.true_or])), rfl, rfl, rfl, rfl, HM, HJ1⟩, by simp [intOf]; omega⟩
   ·exact ⟨⟨k + 1, _, m, RS.tall ⟨aw, sh0, sd0, sgs⟩ ⟨kd, wd, hh, dp, sh, fo, ch, nn, gs, gp, gpo, gm, gmo, tx, kids⟩, by omega, by go_num, hideP (TALL.out (by unfold tallB; simp only [‹(kd == 7) = true›, Bool.or_true, Bool.true_or])), rfl, rfl, rfl, rfl, HM, HJ1⟩, by simp [intOf]; omega⟩
   ·exact ⟨⟨k + 1, _, m, RS.kern ⟨aw, sh0, sd0, sgs⟩ ⟨kd, wd, hh, dp, sh, fo, ch, nn, gs, gp, gpo, gm, gmo, tx, kids⟩, by omega, by go_num, hideP (KERN.out (beq_iff_eq.1 ‹(kd == 2) = true›)), rfl, rfl, rfl, rfl, HM, HJ1⟩, by simp [intOf]; omega⟩
   ·exact ⟨⟨k + 1, _, m + 1, RS.glue ⟨aw, sh0, sd0, sgs⟩ ⟨kd, wd, hh, dp, sh, fo, ch, nn, gs, gp, gpo, gm, gmo, tx, kids⟩, by omega, by go_num, hideP (GLUE.out (beq_iff_eq.1 ‹(kd == 3) = true›)), rfl, rfl, rfl, rfl, hideP (by rw [HM.out]; simp [RS.glue]), ‹Hid (RInv w _ _ Z _ (sgs ++ [_]))›⟩, by simp [intOf]; omega⟩
   ·exact ⟨⟨k + 1, _, m, ⟨aw, sh0, sd0, sgs⟩, by omega, by go_num, hideP (NONE.out (fun e => by subst e; exact absurd ‹((1 : Int) == 1) = false› (by decide)) (fun e => by subst e; exact absurd ‹((5 : Int) == 5) = false› (by decide)) (fun e => by subst e; exact absurd ‹((6 : Int) == 6) = false› (by decide)) (fun e => by subst e; exact absurd ‹((7 : Int) == 7) = false› (by decide)) (fun e => by subst e; exact absurd ‹((2 : Int) == 2) = false› (by decide)) (fun e => by subst e; exact absurd ‹((3 : Int) == 3) = false› (by decide))), rfl, rfl, rfl, rfl, HM, HJ1⟩, by simp [intOf]; omega⟩
  ·have hki : ¬ (k : Int) < (r : Int) := by omega
   have hE : s = rowTo xs Z := by rw [HS.out, show k = Z.length by rw [<- HRZ.out]; omega, List.take_length]
   subst hE
   go_wp2
   refine bodyPost_ret (by simp [results, Tryz.results87, go_sem]; try rfl) rfl ?_
   exact ⟨⟨_, rfl, HJ.out.own⟩, HJ.out.bel⟩
theorem okK_more (d : Nat) (len : Int) : ∀ (xs : List Nd) (i : Int) (T : List Int), okK d len i T xs = true -> okK (d + 1) len i T xs = true
 | [], _, _, _ => rfl
 | x :: xs, i, T, h => by
  simp only [okK, Bool.and_eq_true, Bool.or_eq_true, decide_eq_true_eq] at h ⊢
  obtain ⟨⟨h1, h2⟩, h3⟩ := h
  refine ⟨⟨h1, ?_⟩, okK_more d len xs _ _ h3⟩
  rcases h2 with h2 | h2
  ·exact .inl h2
  ·exact .inr (by omega)
theorem can_list {xs : List Nd} (h : canB xs = true) : listB xs = true := by
 unfold canB at h
 simp only [Bool.and_eq_true, decide_eq_true_eq] at h
 obtain ⟨⟨h1, h2⟩, h3⟩ := h
 unfold listB
 rw [okFrom_split, okK_more 39 _ _ _ _ h2, h3, decide_eq_true (by omega)]
 rfl
theorem can_in {xs : List Nd} (h : canB xs = true) : ∀ i, i < xs.length -> NdIn (xs.getD i Nd.none) := by
 unfold canB at h
 simp only [Bool.and_eq_true, decide_eq_true_eq] at h
 exact fun i hi => good_in (all_getD.1 h.2 i hi)
def begins (xs : List Nd) : List Nat := starts xs (xs.length + 1) 0
def hpS (xs : List Nd) : RS := rowTo xs (begins xs)
def hpTo (xs : List Nd) (mode size : Int) : Int := Shr.alongI (hpS xs).w (hpS xs).gs mode size
def hpQ (xs : List Nd) (mode size : Int) : Int := hpTo xs mode size - (hpS xs).w - Shr.siz (hpS xs).gs
def hpL (xs : List Nd) (mode size : Int) : List Int := Shr.shareL (hpS xs).gs (hpQ xs mode size)
def hpOk (xs : List Nd) (mode size : Int) : Bool := packB xs mode size && Shr.glsOk (hpS xs).gs && (Shr.fitsB (hpTo xs mode size) && Shr.fitsB (hpS xs).w) && fitsB (hpS xs).h && fitsB (hpS xs).d && (hpL xs mode size).all Shr.fitsB
def hpN (xs : List Nd) (mode size : Int) : List Nd := boxN 6 (hpTo xs mode size) (hpS xs).h (hpS xs).d xs.length :: setL (gluesAt xs (begins xs)) (hpL xs mode size) xs
abbrev packV (u : Value) (s : Shr.Sett) : Value := .agg #[u, .int .i64 s.sign, .int .i64 s.order, .int .i64 s.want, .int .i64 s.have_, .int .i64 s.bad, .int .i64 s.over]
abbrev packO (u : Value) (a b c d e f : Int) : Obj := .cells #[u, .int .i64 a, .int .i64 b, .int .i64 c, .int .i64 d, .int .i64 e, .int .i64 f] 30 (0, 0)
theorem loadPack {w : World} {R : Nat} {u : Value} {a b c d e f : Int} (h : w.heap[R]? = some (packO u a b c d e f)) : (loadVar 30 ⟨R, 0, none⟩).run Tryz.prog w = .ok (packV u ⟨a, b, c, d, e, f⟩) w :=
 run_loadVar_row _ _ 30 30 _ (0, 0) _ h Tryz.underlying30 rfl (by kernel_rfl)
theorem results_one_cell {fn : Func} {p : Tmp} {ty : TypeId} (h : fn.results = #[.cell p ty]) (tmps : Array Value) (w : World) (g : Nat) (x : Value) {P : Program}
 (hp : tmps.getD p undef = .pointer (some ⟨g, 0, none⟩)) (hld : (loadVar ty ⟨g, 0, none⟩).run P w = .ok x w) :
 (results fn tmps).run P w = .ok x w := by
 have hp' : tmps[p]?.getD undef = .pointer (some ⟨g, 0, none⟩) := by simpa using hp
 simp [results, h, hp', asAddr, hld, Result.andThen]
theorem pack_cells {w : World} {R : Nat} {u : Value} {a b c d e f : Int} (h : w.heap[R]? = some (packO u a b c d e f)) : w.cell? ⟨R, 0, none⟩ = some u /\ w.cell? ⟨R, 1, none⟩ = some (.int .i64 a) /\ w.cell? ⟨R, 2, none⟩ = some (.int .i64 b) /\ w.cell? ⟨R, 3, none⟩ = some (.int .i64 c) /\ w.cell? ⟨R, 4, none⟩ = some (.int .i64 d) /\ w.cell? ⟨R, 5, none⟩ = some (.int .i64 e) /\ w.cell? ⟨R, 6, none⟩ = some (.int .i64 f) :=
 ⟨cell_of_row w R 0 _ 30 _ h, cell_of_row w R 1 _ 30 _ h, cell_of_row w R 2 _ 30 _ h, cell_of_row w R 3 _ 30 _ h, cell_of_row w R 4 _ 30 _ h, cell_of_row w R 5 _ 30 _ h, cell_of_row w R 6 _ 30 _ h⟩
abbrev sev (w : World) (R : Nat) (u : Value) (a b c d e f : Int) : World := ((((((w.setCell ⟨R, 0, none⟩ u).setCell ⟨R, 1, none⟩ (.int .i64 a)).setCell ⟨R, 2, none⟩ (.int .i64 b)).setCell ⟨R, 3, none⟩ (.int .i64 c)).setCell ⟨R, 4, none⟩ (.int .i64 d)).setCell ⟨R, 5, none⟩ (.int .i64 e)).setCell ⟨R, 6, none⟩ (.int .i64 f)
set_option maxHeartbeats 4000000 in
theorem sev_heap {w : World} {R : Nat} {u0 : Value} {a0 b0 c0 d0 e0 f0 : Int} (h : w.heap[R]? = some (packO u0 a0 b0 c0 d0 e0 f0)) (u : Value) (a b c d e f : Int) : (sev w R u a b c d e f).heap[R]? = some (packO u a b c d e f) :=
 heap_setCell_same _ R 6 _ 30 _ (heap_setCell_same _ R 5 _ 30 _ (heap_setCell_same _ R 4 _ 30 _ (heap_setCell_same _ R 3 _ 30 _ (heap_setCell_same _ R 2 _ 30 _ (heap_setCell_same _ R 1 _ 30 _ (heap_setCell_same _ R 0 _ 30 _ h))))))
theorem sev_below {B : Nat} {w W : World} {R : Nat} (h : Below B w W) (hR : B <= R) (u : Value) (a b c d e f : Int) : Below B w (sev W R u a b c d e f) :=
 ((((((h.setCell (p := ⟨R, 0, none⟩) hR _).setCell (p := ⟨R, 1, none⟩) hR _).setCell (p := ⟨R, 2, none⟩) hR _).setCell (p := ⟨R, 3, none⟩) hR _).setCell (p := ⟨R, 4, none⟩) hR _).setCell (p := ⟨R, 5, none⟩) hR _).setCell (p := ⟨R, 6, none⟩) hR _
structure PB (w W : World) : Prop where
 box : W.heap[w.heap.size]? = some (packO (.slice none 0 0) 0 0 0 0 0 0)
 bel : Below w.heap.size w W
theorem PB.start (w : World) : PB w (w.alloc (.cells #[.slice none 0 0, .int .i64 0, .int .i64 0, .int .i64 0, .int .i64 0, .int .i64 0, .int .i64 0] 30)) := ⟨heap_alloc_new w _, below1 _ _⟩
theorem PB.below {w W W' : World} (h : PB w W) (hb : Below W.heap.size W W') : PB w W' :=
 ⟨(hb.block _ (glt h.box)).trans h.box, below_more h.bel hb h.bel.size⟩
set_option maxRecDepth 20000 in
set_option maxHeartbeats 8000000 in
theorem specHPack_no {v : Value} {xs : List Nd} {w : World} (mode size : Int) (h : NRow 0 w v xs) (hs : xs.length <= 1048576) (hno : hpOk xs mode size = false) :
 Calls Tryz.prog 68 #[v, .int .i64 mode, .int .i64 size] w fun e w' => e = .returned (packV (.slice none 0 0) ⟨0, 0, 0, 0, 0, 0⟩) /\ Below w.heap.size w w' := by
 have HC : Hid (∀ W, Below w.heap.size w W -> Calls Tryz.prog 86 #[v, .int .i64 mode, .int .i64 size] W fun e w' => e = .returned (.bool (packB xs mode size)) /\ Below W.heap.size W w') := hideP (fun W hW => specCan_any mode size (h.below ndStable hW) hs)
 obtain ⟨ok, hok⟩ := exq (packB xs mode size)
 rw [<- hok] at HC
 have HOK := hideP hok
 have HN := hideP h
 have HNO := hideP hno
 obtain ⟨ao, n, cap, rfl, hl, -⟩ := h
 have HL := hideP hl
 clear hok hl hno
 go_enter Tryz.func68, Tryz.ntmps68
 go_wp2_with fail
 refine (HC.out _ (below1 _ _)).mono ?_
 rintro e w1 ⟨rfl, hb1⟩
 have HP1 : Hid (PB w w1) := hideP ((PB.start w).below hb1)
 clear hb1 HC
 cases ok with
 | false =>
  obtain ⟨r0, r1, r2, r3, r4, r5, r6⟩ := pack_cells HP1.out.box
  have fR : ∀ j, w1.frozen? ⟨w.heap.size, j, none⟩ = false := fun j => frozen_of_row w1 w.heap.size j _ _ HP1.out.box
  have HF : Hid ((sev w1 w.heap.size (.slice none 0 0) 0 0 0 0 0 0).heap[w.heap.size]? = some (packO (.slice none 0 0) 0 0 0 0 0 0) /\ Below w.heap.size w (sev w1 w.heap.size (.slice none 0 0) 0 0 0 0 0 0)) := hideP ⟨sev_heap HP1.out.box _ _ _ _ _ _ _, sev_below HP1.out.bel (Nat.le_refl _) _ _ _ _ _ _ _⟩
  go_wp2
  exact bodyPost_ret (v := packV (.slice none 0 0) ⟨0, 0, 0, 0, 0, 0⟩) (results_one_cell rfl _ _ w.heap.size _ rfl (loadPack HF.out.1)) rfl ⟨rfl, HF.out.2⟩
 | true =>
  have hpk : packB xs mode size = true := HOK.out.symm
  have hcan : canB xs = true := by unfold packB at hpk; simp only [Bool.and_eq_true] at hpk; exact hpk.1.1
  have hfs : fitsB size = true := by unfold packB at hpk; simp only [Bool.and_eq_true] at hpk; exact hpk.2
  have HFS : Hid (Shr.fitsB size = true) := hideP hfs
  have hin : RIn (hpS xs) (begins xs).length := rowTo_in xs (can_in hcan) _ (fun p hp => starts_lt xs _ _ p hp)
  have hcnt : (begins xs).length <= 20000 := by
   have h1 := starts_count (xs := xs) (xs.length + 1) 0
   have h2 := (allOk (can_list hcan)).len
   unfold begins
   omega
  have HWB : Hid (-1152921504606846976 <= (hpS xs).w /\ (hpS xs).w <= 1152921504606846976) := hideP ⟨by have := hin.w1; omega, by have := hin.w2; omega⟩
  have HGN : Hid ((hpS xs).gs.length <= 1048576) := hideP (by have := hin.n; omega)
  have HROW : Hid (∀ W, Below w.heap.size w W -> Calls Tryz.prog 87 #[.slice ao n cap] W fun e w' => (∃ u, e = .returned (.tuple #[.int .i64 (hpS xs).w, u, .int .i64 (hpS xs).h, .int .i64 (hpS xs).d]) /\ w'.ownsRow W.heap.size 34 5 u (hpS xs).gs.length (f5 (hpS xs).gs)) /\ Below W.heap.size W w') := hideP (fun W hW => specRow_any (HN.out.below ndStable hW) (allOk (can_list hcan)) (can_in hcan))
  have HALL : Hid (hpOk xs mode size = (Shr.glsOk (hpS xs).gs && (Shr.fitsB (hpTo xs mode size) && Shr.fitsB (hpS xs).w) && fitsB (hpS xs).h && fitsB (hpS xs).d && (hpL xs mode size).all Shr.fitsB)) := hideP (by unfold hpOk; rw [hpk]; rfl)
  clear hpk hcan hfs hin hcnt
  go_wp2_with fail
  refine (HROW.out _ HP1.out.bel).mono ?_
  rintro e w2 ⟨⟨u, rfl, hown⟩, hb2⟩
  have HP2 : Hid (PB w w2) := hideP (HP1.out.below hb2)
  have HGR : Hid (Shr.GRow w2 u (hpS xs).gs) := hideP (own_GRow hown rfl)
  clear hown hb2 HROW HP1
  cases hgl : Shr.glsOk (hpS xs).gs with
  | false =>
   have HGL := hideP hgl
   clear hgl
   go_wp2_with fail
   refine (Shr.along_no _ mode size HGR.out HGN.out HGL.out).mono ?_
   rintro e w3 ⟨rfl, hb3⟩
   have HP3 : Hid (PB w w3) := hideP (HP2.out.below hb3)
   clear hb3 HP2
   obtain ⟨r0, r1, r2, r3, r4, r5, r6⟩ := pack_cells HP3.out.box
   have fR : ∀ j, w3.frozen? ⟨w.heap.size, j, none⟩ = false := fun j => frozen_of_row w3 w.heap.size j _ _ HP3.out.box
   have HF : Hid ((sev w3 w.heap.size (.slice none 0 0) 0 0 0 0 0 0).heap[w.heap.size]? = some (packO (.slice none 0 0) 0 0 0 0 0 0) /\ Below w.heap.size w (sev w3 w.heap.size (.slice none 0 0) 0 0 0 0 0 0)) := hideP ⟨sev_heap HP3.out.box _ _ _ _ _ _ _, sev_below HP3.out.bel (Nat.le_refl _) _ _ _ _ _ _ _⟩
   go_wp2
   exact bodyPost_ret (v := packV (.slice none 0 0) ⟨0, 0, 0, 0, 0, 0⟩) (results_one_cell rfl _ _ w.heap.size _ rfl (loadPack HF.out.1)) rfl ⟨rfl, HF.out.2⟩
  | true =>
   have HGL := hideP hgl
   clear hgl
   go_wp2_with fail
   refine (Shr.along_ok _ mode size HGR.out HGL.out HWB.out HFS.out).mono ?_
   rintro e w3 ⟨rfl, hb3⟩
   have HP3 : Hid (PB w w3) := hideP (HP2.out.below hb3)
   have HGR3 : Hid (Shr.GRow w3 u (hpS xs).gs) := hideP (HGR.out.below hb3)
   clear hb3 HP2 HGR
   rw [show Shr.alongI (hpS xs).w (hpS xs).gs mode size = hpTo xs mode size from rfl]
   obtain ⟨tt, htt⟩ := exq (hpTo xs mode size)
   rw [<- htt]
   have HTT := hideP htt
   clear htt
   obtain ⟨fo, hfo⟩ := exq ((Shr.fitsB tt && Shr.fitsB (hpS xs).w))
   rw [<- hfo]
   have HFO := hideP hfo
   clear hfo
   cases fo with
   | false =>
    obtain ⟨r0, r1, r2, r3, r4, r5, r6⟩ := pack_cells HP3.out.box
    have fR : ∀ j, w3.frozen? ⟨w.heap.size, j, none⟩ = false := fun j => frozen_of_row w3 w.heap.size j _ _ HP3.out.box
    have HF : Hid ((sev w3 w.heap.size (.slice none 0 0) 0 0 0 0 0 0).heap[w.heap.size]? = some (packO (.slice none 0 0) 0 0 0 0 0 0) /\ Below w.heap.size w (sev w3 w.heap.size (.slice none 0 0) 0 0 0 0 0 0)) := hideP ⟨sev_heap HP3.out.box _ _ _ _ _ _ _, sev_below HP3.out.bel (Nat.le_refl _) _ _ _ _ _ _ _⟩
    go_wp2
    exact bodyPost_ret (v := packV (.slice none 0 0) ⟨0, 0, 0, 0, 0, 0⟩) (results_one_cell rfl _ _ w.heap.size _ rfl (loadPack HF.out.1)) rfl ⟨rfl, HF.out.2⟩
   | true =>
    go_wp2_with fail
    refine (specFits_any (hpS xs).h _).mono ?_
    rintro e w4 ⟨rfl, rfl⟩
    obtain ⟨fh, hfh⟩ := exq (fitsB (hpS xs).h)
    rw [<- hfh]
    have HFH := hideP hfh
    clear hfh
    cases fh with
    | false =>
     obtain ⟨r0, r1, r2, r3, r4, r5, r6⟩ := pack_cells HP3.out.box
     have fR : ∀ j, w4.frozen? ⟨w.heap.size, j, none⟩ = false := fun j => frozen_of_row w4 w.heap.size j _ _ HP3.out.box
     have HF : Hid ((sev w4 w.heap.size (.slice none 0 0) 0 0 0 0 0 0).heap[w.heap.size]? = some (packO (.slice none 0 0) 0 0 0 0 0 0) /\ Below w.heap.size w (sev w4 w.heap.size (.slice none 0 0) 0 0 0 0 0 0)) := hideP ⟨sev_heap HP3.out.box _ _ _ _ _ _ _, sev_below HP3.out.bel (Nat.le_refl _) _ _ _ _ _ _ _⟩
     go_wp2
     exact bodyPost_ret (v := packV (.slice none 0 0) ⟨0, 0, 0, 0, 0, 0⟩) (results_one_cell rfl _ _ w.heap.size _ rfl (loadPack HF.out.1)) rfl ⟨rfl, HF.out.2⟩
    | true =>
     go_wp2_with fail
     refine (specFits_any (hpS xs).d _).mono ?_
     rintro e w5 ⟨rfl, rfl⟩
     obtain ⟨fd, hfd⟩ := exq (fitsB (hpS xs).d)
     rw [<- hfd]
     have HFD := hideP hfd
     clear hfd
     cases fd with
     | false =>
      obtain ⟨r0, r1, r2, r3, r4, r5, r6⟩ := pack_cells HP3.out.box
      have fR : ∀ j, w5.frozen? ⟨w.heap.size, j, none⟩ = false := fun j => frozen_of_row w5 w.heap.size j _ _ HP3.out.box
      have HF : Hid ((sev w5 w.heap.size (.slice none 0 0) 0 0 0 0 0 0).heap[w.heap.size]? = some (packO (.slice none 0 0) 0 0 0 0 0 0) /\ Below w.heap.size w (sev w5 w.heap.size (.slice none 0 0) 0 0 0 0 0 0)) := hideP ⟨sev_heap HP3.out.box _ _ _ _ _ _ _, sev_below HP3.out.bel (Nat.le_refl _) _ _ _ _ _ _ _⟩
      go_wp2
      exact bodyPost_ret (v := packV (.slice none 0 0) ⟨0, 0, 0, 0, 0, 0⟩) (results_one_cell rfl _ _ w.heap.size _ rfl (loadPack HF.out.1)) rfl ⟨rfl, HF.out.2⟩
     | true =>
      have HFW : Hid (Shr.fitsB tt = true /\ Shr.fitsB (hpS xs).w = true) := hideP (by have h := HFO.out.symm; simpa only [Bool.and_eq_true] using h)
      go_wp2_with fail
      refine (Shr.specShare_ok (hpS xs).w tt (hpQ xs mode size) HGR3.out HGL.out HFW.out.2 HFW.out.1 (by unfold hpQ; rw [<- HTT.out])).mono ?_
      rintro e w6 ⟨⟨vl, rfl, hrow⟩, hb6⟩
      have HP6 : Hid (PB w w6) := hideP (HP3.out.below hb6)
      have HRL : Hid (Shr.Row w6 vl (hpL xs mode size)) := hideP hrow
      have HLN : Hid ((hpL xs mode size).length <= 1048576) := hideP (by unfold hpL; rw [Shr.shareL_length]; exact HGN.out)
      clear hb6 hrow HP3
      go_wp2_with fail
      refine (Shr.fitsAll_any (HRL.out.below (below1 _ _)) HLN.out).mono ?_
      rintro e w7 ⟨rfl, hw7⟩
      have HP7 : Hid (PB w w7) := hideP (by rw [hw7]; exact HP6.out.below (below1 _ _))
      clear hw7 HP6
      obtain ⟨fl, hfl⟩ := exq ((hpL xs mode size).all Shr.fitsB)
      rw [<- hfl]
      have HFL := hideP hfl
      clear hfl
      cases fl with
      | false =>
       obtain ⟨r0, r1, r2, r3, r4, r5, r6⟩ := pack_cells HP7.out.box
       have fR : ∀ j, w7.frozen? ⟨w.heap.size, j, none⟩ = false := fun j => frozen_of_row w7 w.heap.size j _ _ HP7.out.box
       have HF : Hid ((sev w7 w.heap.size (.slice none 0 0) 0 0 0 0 0 0).heap[w.heap.size]? = some (packO (.slice none 0 0) 0 0 0 0 0 0) /\ Below w.heap.size w (sev w7 w.heap.size (.slice none 0 0) 0 0 0 0 0 0)) := hideP ⟨sev_heap HP7.out.box _ _ _ _ _ _ _, sev_below HP7.out.bel (Nat.le_refl _) _ _ _ _ _ _ _⟩
       go_wp2
       exact bodyPost_ret (v := packV (.slice none 0 0) ⟨0, 0, 0, 0, 0, 0⟩) (results_one_cell rfl _ _ w.heap.size _ rfl (loadPack HF.out.1)) rfl ⟨rfl, HF.out.2⟩
      | true =>
       exfalso
       have h1 := HNO.out
       rw [HALL.out, HGL.out, <- HTT.out, <- HFO.out, <- HFH.out, <- HFD.out, <- HFL.out] at h1
       exact absurd h1 (by decide)
end Go.Proofs.YtbbehmcekbnkiaaGreat
