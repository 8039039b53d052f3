import Derived.Test.YtlohbaoigfaneaaGreatHls
import Derived.Test.YtlohbaoigfaneaaGreatSst
import Derived.Test.YtlohbaoigfaneaaGreatLnn
import Derived.Test.YtlohbaoigfaneaaGreatTrn
import Derived.Test.YtlohbaoigfaneaaGreatInts
import Derived.Test.YtlohbaoigfaneaaGreatPay
namespace Go.Proofs.YtlohbaoigfaneaaGreat
open Go.RowKit
set_option linter.unusedVariables false
set_option linter.unusedSimpArgs false
set_option maxRecDepth 20000 in
set_option maxHeartbeats 4000000 in
theorem starts9_any {v : Value} {xs : List Nd} {w : World} (h : NRow 0 w v xs) (hlen : xs.length ≤ 20010) (hkids : ∀ i, i < xs.length → 0 ≤ (xs.getD i Nd.none).kids ∧ (xs.getD i Nd.none).kids ≤ 20010) :
 Calls Tryz.prog 87 #[v] w fun e w' => (∃ u, e = .returned u ∧ IR w' w.heap.size u (starts xs (xs.length + 1) 0).length (natI (starts xs (xs.length + 1) 0))) ∧ Below w.heap.size w w' := by
 obtain ⟨ao, n, cap, rfl, hl, hr⟩ := h
 have HL := hideP hl
 have HR : Hid (0 < n → ∃ b off, ao = some ⟨b, off, none⟩ ∧ 0 ≤ b ∧ b < w.heap.size ∧ ∀ i, i < n → ∃ cs : List Value, cs.length = 15 ∧ NdR 0 w cs (xs.getD i Nd.none) ∧ ∀ j, j < 15 → w.cell? ⟨b, off + i * 15 + j, none⟩ = cs[j]?) := hideP hr
 have HK := hideP hkids
 have hn : n ≤ 20010 := by rw [← hl]; exact hlen
 obtain ⟨Z, hZ⟩ : ∃ Z, Z = starts xs (xs.length + 1) 0 := ⟨_, rfl⟩
 rw [← hZ]
 have HZ := hideP hZ
 clear hr hl hkids hlen hZ
 go_enter Tryz.func87, Tryz.ntmps87
 go_wp2
 go_loopw [3, 4] (fun s a wr => ∃ (i f : Nat) (pre : List Nat) (g c r : Nat), a = .int .i64 (i : Int) ∧ i ≤ 40021 ∧ n < i + f ∧ Hid (pre ++ starts xs f i = Z) ∧ r ≤ i ∧ r ≤ 20011 ∧ pre.length = r ∧ s = .slice (some ⟨g, 0, none⟩) r c ∧ IR wr w.heap.size (.slice (some ⟨g, 0, none⟩) r c) r (natI pre) ∧ Below w.heap.size w wr) (fun _ a _ => n - (intOf a).toNat)
 case atStart =>
  exact ⟨0, n + 1, [], w.heap.size, 0, 0, rfl, by omega, by omega, hideP (by rw [HZ.out, ← HL.out]; rfl), by omega, by omega, rfl, rfl, ⟨rfl, .inr ⟨_, _, _, rfl, Nat.le_refl _, heap_alloc_new w _, by omega, by decide, rfl, rfl⟩⟩, below1 _ _⟩
 case round =>
  obtain ⟨i, f, pre, g, c, r, rfl, hi, hf, HP, hri, hr2, hpr, rfl, hI, hbel⟩ := hrel
  by_cases hin : i < n
  ·have hii : (i : Int) < (n : Int) := by omega
   obtain ⟨b, off, rfl, _, hb, hc⟩ := HR.out (by omega)
   obtain ⟨cs, hcl, hRel, hcj⟩ := hc i hin
   obtain ⟨t, ht⟩ : ∃ t, t = xs.getD i Nd.none := ⟨_, rfl⟩
   have hkk := HK.out i (by rw [HL.out]; exact hin)
   rw [← ht] at hRel hkk
   obtain ⟨kids, hkd⟩ : ∃ z, z = t.kids := ⟨_, rfl⟩
   rw [← hkd] at hkk
   obtain ⟨hk0, hk1⟩ := hkk
   have g14 : wr.cell? ⟨b, off + i * 15 + 14, none⟩ = some (.int .i64 kids) := (hbel.cell (p := ⟨b, off + i * 15 + 14, none⟩) hb).trans ((hcj 14 (by omega)).trans (by rw [show cs = _ from hRel, hkd]; rfl))
   obtain ⟨f, rfl⟩ : ∃ q, f = q + 1 := ⟨f - 1, by omega⟩
   have HST : Hid ((pre ++ [i]) ++ starts xs f (i + 1 + kids.toNat) = Z) := hideP (by
    have h := HP.out
    rw [show starts xs (f + 1) i = i :: starts xs f (i + 1 + (xs.getD i Nd.none).kids.toNat) by simp only [starts]; rw [if_pos (by rw [HL.out]; exact hin)]] at h
    rw [← ht, ← hkd] at h
    rw [List.append_assoc]
    exact h)
   have HI := hideP hI
   have HB := hideP hbel
   have hw1 : w.heap.size ≤ wr.heap.size := hbel.size
   have HPR := hideP hpr
   obtain ⟨i0, hi0, hy0, hy1, hy2⟩ := info_parts Tryz.info3b
   have Q14 : Hid (∀ x, Below w.heap.size w x → x.cell? ⟨b, off + i * 15 + 14, none⟩ = some (.int .i64 kids)) := hideP (fun x hx => (hx.cell (p := ⟨b, off + i * 15 + 14, none⟩) hb).trans ((hcj 14 (by omega)).trans (by rw [show cs = _ from hRel, hkd]; rfl)))
   clear hc hcj hcl ht hRel hI hbel hkd g14
   go_wp2_with (at_builtin; refine wpList_append_own_at _ rfl _ _ 182 rfl w.heap.size 3 i0 (.int .i64 0) 1 8 Tryz.underlying182 hi0 hy0 hy1 hy2 rfl (by decide) _ _ _ rfl (HI.out.alloc _) ⟨wr.heap.size, 0, none⟩ 1 1 [.int .i64 (i : Int)] rfl rfl (cell_one_new _ _ _) (by intro u hu; simp at hu; subst hu; rfl) (by unfold maxLen; omega) (by omega) (by simp; omega) ?_; intro v6 w6 hown6 hgrow6 hnil6 hlies6; have hg6 : (wr.alloc (.cells #[.int .i64 (i : Int)] 3)).grownBy w6 (some g) := hgrow6; have hB6 : Below w.heap.size w w6 := Below.grown (HB.out.alloc hw1 _) hg6 (by simp; omega) (by intro j hj; simp at hj; subst hj; exact (stk_cap HI.out).2.2.1); have hk6 := Q14.out w6 hB6; have H6 := hideP (And.intro hown6 hB6); clear hown6 hgrow6 hnil6 hlies6 hg6 hB6)
   have hI6 : IR w6 w.heap.size v6 (r + 1) (natI (pre ++ [i])) := by
    show w6.ownsRow w.heap.size 3 1 v6 (r + 1) ((natI (pre ++ [i])).map (Value.int .i64))
    unfold natI
    rw [List.map_append, List.map_append]
    exact H6.out.1
   go_roundw
   case rel =>
    obtain ⟨g6, c6, rfl⟩ : ∃ g c, v6 = .slice (some ⟨g, 0, none⟩) (r + 1) c := by
     rcases hI6.2 with ⟨_, h⟩ | ⟨g, c, cur, h, _⟩
     ·omega
     ·exact ⟨g, c, h⟩
    exact ⟨i + 1 + kids.toNat, f, pre ++ [i], g6, c6, r + 1, congrArg _ (by omega), by omega, by omega, HST, by omega, by omega, by simp [HPR.out], rfl, hI6, H6.out.2⟩
   case measure => simp [intOf]; omega
  ·have hii : ¬ (i : Int) < (n : Int) := by omega
   have HE : Hid (pre = Z) := hideP (by
    have h := HP.out
    cases f with
    | zero => simpa [starts] using h
    | succ f =>
     rw [show starts xs (f + 1) i = [] by simp only [starts]; rw [if_neg (by rw [HL.out]; exact hin)]] at h
     simpa using h)
   have HI := hideP hI
   have HB := hideP hbel
   clear hI hbel
   go_wp2
   go_ret
   refine ⟨⟨_, rfl, ?_⟩, HB.out⟩
   rw [← HE.out, hpr]
   exact HI.out
set_option maxRecDepth 20000 in
set_option maxHeartbeats 8000000 in
theorem specRow9_any {v : Value} {xs : List Nd} {w : World} (h : NRow 0 w v xs) (hok : AllOk9 xs) (hg : ∀ i, i < xs.length → NdIn (xs.getD i Nd.none)) :
 Calls Tryz.prog 60 #[v] w fun e w' => (∃ u, e = .returned (.tuple #[.int .i64 (rowTo xs (starts xs (xs.length + 1) 0)).w, u, .int .i64 (rowTo xs (starts xs (xs.length + 1) 0)).h, .int .i64 (rowTo xs (starts xs (xs.length + 1) 0)).d]) ∧ w'.ownsRow w.heap.size 33 5 u (rowTo xs (starts xs (xs.length + 1) 0)).gs.length (f5 (rowTo xs (starts xs (xs.length + 1) 0)).gs)) ∧ Below w.heap.size w w' := by
 have HC : Hid (∀ W, Below w.heap.size w W → Calls Tryz.prog 87 #[v] W fun e w' => (∃ u, e = .returned u ∧ IR w' W.heap.size u (starts xs (xs.length + 1) 0).length (natI (starts xs (xs.length + 1) 0))) ∧ Below W.heap.size W w') := hideP (fun W hW => starts9_any (h.below ndStable hW) hok.len hok.weak)
 obtain ⟨ao, n, cap, rfl, hl, hr⟩ := h
 have hn : n ≤ 20010 := by rw [← hl]; exact hok.len
 have HR : Hid (0 < n → ∃ b off, ao = some ⟨b, off, none⟩ ∧ 0 ≤ b ∧ b < w.heap.size ∧ ∀ i, i < n → ∃ cs : List Value, cs.length = 15 ∧ NdR 0 w cs (xs.getD i Nd.none) ∧ ∀ j, j < 15 → w.cell? ⟨b, off + i * 15 + j, none⟩ = cs[j]?) := hideP hr
 obtain ⟨Z, hZ⟩ : ∃ Z, Z = starts xs (xs.length + 1) 0 := ⟨_, rfl⟩
 rw [← hZ] at HC
 rw [← hZ]
 have HZP : Hid (∀ p ∈ Z, p < xs.length) := hideP (fun p hp => starts_lt xs _ _ p (by rw [← hZ]; exact hp))
 have HRI : Hid (∀ k, k ≤ Z.length → RIn (rowTo xs (Z.take k)) k) := hideP (fun k hk => by
  have h1 := rowTo_in xs hg (Z.take k) (fun p hp => HZP.out p (List.mem_of_mem_take hp))
  rw [List.length_take, Nat.min_eq_left hk] at h1
  exact h1)
 have HG := hideP hg
 have HL := hideP hl
 obtain ⟨r, hrz⟩ : ∃ r, r = Z.length := ⟨_, rfl⟩
 have HRZ := hideP hrz
 have hr20 : r ≤ 20010 := by
  rw [hrz, hZ]
  have := starts_count (xs := xs) (xs.length + 1) 0
  omega
 clear hr hl hZ hrz hg hok
 obtain ⟨i0, hi, hz0, hz1, hz2⟩ := info_parts Shr.Tryz.info33
 go_enter Tryz.func60, Tryz.ntmps60
 go_wp2_with fail
 refine (HC.out _ (below1 _ _)).mono ?_
 rintro e w1 ⟨⟨va, rfl, hI⟩, hb1⟩
 have J0 : Hid (RInv w w1 va Z (.slice (some ⟨w.heap.size, 0, none⟩) 0 0) []) := hideP ⟨ownG_below (w := w.alloc (.cells #[] 33)) ⟨rfl, .inr ⟨_, _, _, rfl, Nat.le_refl _, heap_alloc_new w _, by simp, by decide, rfl, rfl⟩⟩ hb1, ownG_mono hI (by simp), below_more (below1 _ _) hb1 (by simp)⟩
 obtain ⟨aa, ca, rfl⟩ := ownG_shape hI
 rw [← HRZ.out]
 clear hI hb1 HC
 go_wp2
 go_loopw [6, 7, 8, 9, 11] (fun sw sh sd su i wr => ∃ (k : Nat) (u : Value) (m : Nat) (s : RS), k ≤ r ∧ i = .int .i64 k ∧ Hid (s = rowTo xs (Z.take k)) ∧ sw = .int .i64 s.w ∧ sh = .int .i64 s.h ∧ sd = .int .i64 s.d ∧ su = u ∧ Hid (m = s.gs.length) ∧ Hid (RInv w wr (.slice aa r ca) Z u s.gs)) (fun _ _ _ _ i _ => r - (intOf i).toNat)
 case atStart => exact ⟨0, _, 0, RS.nil, by omega, rfl, hideP rfl, rfl, rfl, rfl, rfl, hideP rfl, by rw [HRZ.out]; exact J0⟩
 case round =>
  obtain ⟨k, u, m, s, hk, rfl, HS, rfl, rfl, rfl, rfl, HM, HJ⟩ := hrel
  by_cases hkr : k < r
  ·have hki : (k : Int) < (r : Int) := by omega
   obtain ⟨p, hp⟩ : ∃ p, p = Z.getD k 0 := ⟨_, rfl⟩
   have hpn : p < n := by
    rw [← HL.out, hp]
    refine HZP.out _ ?_
    rw [List.getD_eq_getElem?_getD, List.getElem?_eq_getElem (by rw [← HRZ.out]; exact hkr)]
    exact List.getElem_mem _
   have hpi : (p : Int) < (n : Int) := by omega
   have HTK : Hid (Z.take (k + 1) = Z.take k ++ [p]) := hideP (by rw [hp]; exact take_snoc Z k 0 (by rw [← HRZ.out]; exact hkr))
   obtain ⟨b, off, rfl, _, hb, hc⟩ := HR.out (by omega)
   obtain ⟨cs, hcl, hRel, hcj⟩ := hc p hpn
   obtain ⟨t, ht⟩ : ∃ t, t = xs.getD p Nd.none := ⟨_, rfl⟩
   rw [← ht] at hRel
   have HNI : Hid (NdIn t) := hideP (by rw [ht]; exact HG.out p (by rw [HL.out]; exact hpn))
   have HST : Hid (rowStep s t = rowTo xs (Z.take (k + 1))) := hideP (by rw [HTK.out, rowTo_snoc, ← ht, ← HS.out])
   have hIn : RIn s k := by rw [HS.out]; exact HRI.out k (by rw [← HRZ.out]; exact hk)
   have HIn := hideP hIn
   obtain ⟨qw1, qw2, qh1, qh2, qd1, qd2, qn, -⟩ := hIn
   obtain ⟨⟨nw1, nw2⟩, ⟨nh1, nh2⟩, ⟨nd1, nd2⟩, ⟨ns1, ns2⟩, -⟩ := HNI.out
   have hm : m ≤ 20010 := by rw [HM.out]; omega
   obtain ⟨GZ, rfl⟩ : ∃ GZ, aa = some ⟨GZ, 0, none⟩ := by
    rcases HJ.out.row.2 with ⟨_, h0⟩ | ⟨g, c, cur, he, _⟩
    ·rw [← HRZ.out] at h0; omega
    ·cases he; exact ⟨g, rfl⟩
   have hcz : wr.cell? ⟨GZ, k, none⟩ = some (.int .i64 (p : Int)) := by
    have h0 := HJ.out.row
    rw [← HRZ.out] at h0
    have h1 := natI_at (j := k) h0 HRZ.out.symm hkr
    rw [← hp] at h1
    exact h1
   obtain ⟨kd, wd, hh, dp, sh, fo, ch, nn, gs, gp, gpo, gm, gmo, tx, kids⟩ := t
   simp only at nw1 nw2 nh1 nh2 nd1 nd2 ns1 ns2
   rw [show cs = _ from hRel] at hcj
   simp only [Nd.cells] at hcj
   have g0 : wr.cell? ⟨b, off + p * 15, none⟩ = some (.int .i64 kd) := (HJ.out.bel.cell (p := ⟨b, off + p * 15, none⟩) hb).trans (hcj 0 (by omega))
   have g1 : wr.cell? ⟨b, off + p * 15 + 1, none⟩ = some (.int .i64 wd) := (HJ.out.bel.cell (p := ⟨b, off + p * 15 + 1, none⟩) hb).trans (hcj 1 (by omega))
   have g2 : wr.cell? ⟨b, off + p * 15 + 2, none⟩ = some (.int .i64 hh) := (HJ.out.bel.cell (p := ⟨b, off + p * 15 + 2, none⟩) hb).trans (hcj 2 (by omega))
   have g3 : wr.cell? ⟨b, off + p * 15 + 3, none⟩ = some (.int .i64 dp) := (HJ.out.bel.cell (p := ⟨b, off + p * 15 + 3, none⟩) hb).trans (hcj 3 (by omega))
   have g4 : wr.cell? ⟨b, off + p * 15 + 4, none⟩ = some (.int .i64 sh) := (HJ.out.bel.cell (p := ⟨b, off + p * 15 + 4, none⟩) hb).trans (hcj 4 (by omega))
   have g5 : wr.cell? ⟨b, off + p * 15 + 5, none⟩ = some (.int .i64 fo) := (HJ.out.bel.cell (p := ⟨b, off + p * 15 + 5, none⟩) hb).trans (hcj 5 (by omega))
   have g6 : wr.cell? ⟨b, off + p * 15 + 6, none⟩ = some (.int .i64 ch) := (HJ.out.bel.cell (p := ⟨b, off + p * 15 + 6, none⟩) hb).trans (hcj 6 (by omega))
   have g7 : wr.cell? ⟨b, off + p * 15 + 7, none⟩ = some (.int .i64 nn) := (HJ.out.bel.cell (p := ⟨b, off + p * 15 + 7, none⟩) hb).trans (hcj 7 (by omega))
   have g8 : wr.cell? ⟨b, off + p * 15 + 8, none⟩ = some (.int .i64 gs) := (HJ.out.bel.cell (p := ⟨b, off + p * 15 + 8, none⟩) hb).trans (hcj 8 (by omega))
   have g9 : wr.cell? ⟨b, off + p * 15 + 9, none⟩ = some (.int .i64 gp) := (HJ.out.bel.cell (p := ⟨b, off + p * 15 + 9, none⟩) hb).trans (hcj 9 (by omega))
   have g10 : wr.cell? ⟨b, off + p * 15 + 10, none⟩ = some (.int .i64 gpo) := (HJ.out.bel.cell (p := ⟨b, off + p * 15 + 10, none⟩) hb).trans (hcj 10 (by omega))
   have g11 : wr.cell? ⟨b, off + p * 15 + 11, none⟩ = some (.int .i64 gm) := (HJ.out.bel.cell (p := ⟨b, off + p * 15 + 11, none⟩) hb).trans (hcj 11 (by omega))
   have g12 : wr.cell? ⟨b, off + p * 15 + 12, none⟩ = some (.int .i64 gmo) := (HJ.out.bel.cell (p := ⟨b, off + p * 15 + 12, none⟩) hb).trans (hcj 12 (by omega))
   have g13 : wr.cell? ⟨b, off + p * 15 + 13, none⟩ = some (.string tx) := (HJ.out.bel.cell (p := ⟨b, off + p * 15 + 13, none⟩) hb).trans (hcj 13 (by omega))
   have g14 : wr.cell? ⟨b, off + p * 15 + 14, none⟩ = some (.int .i64 kids) := (HJ.out.bel.cell (p := ⟨b, off + p * 15 + 14, none⟩) hb).trans (hcj 14 (by omega))
   clear hc hcj hcl hRel ht hp
   obtain ⟨aw, sh0, sd0, sgs⟩ := s
   simp only at qw1 qw2 qh1 qh2 qd1 qd2 qn
   have N5 : Hid (∀ j u, [Value.int .i64 gs, .int .i64 gp, .int .i64 gpo, .int .i64 gm, .int .i64 gmo][j]? = some u → ((wr.alloc (.cells #[.int .i64 kd, .int .i64 wd, .int .i64 hh, .int .i64 dp, .int .i64 sh, .int .i64 fo, .int .i64 ch, .int .i64 nn, .int .i64 gs, .int .i64 gp, .int .i64 gpo, .int .i64 gm, .int .i64 gmo, .string tx, .int .i64 kids] 61)).alloc (.cells #[.int .i64 gs, .int .i64 gp, .int .i64 gpo, .int .i64 gm, .int .i64 gmo] 33)).cell? ((⟨wr.heap.size + 1, 0, none⟩ : Addr).add j) = some u) := hideP (by
    have h := new5 (wr.alloc (.cells #[.int .i64 kd, .int .i64 wd, .int .i64 hh, .int .i64 dp, .int .i64 sh, .int .i64 fo, .int .i64 ch, .int .i64 nn, .int .i64 gs, .int .i64 gp, .int .i64 gpo, .int .i64 gm, .int .i64 gmo, .string tx, .int .i64 kids] 61)) (.int .i64 gs) (.int .i64 gp) (.int .i64 gpo) (.int .i64 gm) (.int .i64 gmo) 33
    rw [show (wr.alloc (.cells #[.int .i64 kd, .int .i64 wd, .int .i64 hh, .int .i64 dp, .int .i64 sh, .int .i64 fo, .int .i64 ch, .int .i64 nn, .int .i64 gs, .int .i64 gp, .int .i64 gpo, .int .i64 gm, .int .i64 gmo, .string tx, .int .i64 kids] 61)).heap.size = wr.heap.size + 1 by simp] at h
    exact h)
   have HJ1 : Hid (RInv w (wr.alloc (.cells #[.int .i64 kd, .int .i64 wd, .int .i64 hh, .int .i64 dp, .int .i64 sh, .int .i64 fo, .int .i64 ch, .int .i64 nn, .int .i64 gs, .int .i64 gp, .int .i64 gpo, .int .i64 gm, .int .i64 gmo, .string tx, .int .i64 kids] 61)) (.slice (some ⟨GZ, 0, none⟩) r ca) Z u9 sgs) := hideP (HJ.out.below (below1 _ _))
   have hsz : w.heap.size ≤ wr.heap.size := HJ.out.bel.size
   have TALL : Hid (tallB ⟨kd, wd, hh, dp, sh, fo, ch, nn, gs, gp, gpo, gm, gmo, tx, kids⟩ = true → RS.tall ⟨aw, sh0, sd0, sgs⟩ ⟨kd, wd, hh, dp, sh, fo, ch, nn, gs, gp, gpo, gm, gmo, tx, kids⟩ = rowTo xs (Z.take (k + 1))) := hideP (fun h => by rw [← HST.out]; unfold rowStep; rw [if_pos h])
   have KERN : Hid (kd = 2 → RS.kern ⟨aw, sh0, sd0, sgs⟩ ⟨kd, wd, hh, dp, sh, fo, ch, nn, gs, gp, gpo, gm, gmo, tx, kids⟩ = rowTo xs (Z.take (k + 1))) := hideP (fun h => by rw [← HST.out]; exact (rowStep_2 h).symm)
   have GLUE : Hid (kd = 3 → RS.glue ⟨aw, sh0, sd0, sgs⟩ ⟨kd, wd, hh, dp, sh, fo, ch, nn, gs, gp, gpo, gm, gmo, tx, kids⟩ = rowTo xs (Z.take (k + 1))) := hideP (fun h => by rw [← HST.out]; exact (rowStep_3 h).symm)
   have NONE : Hid (kd ≠ 1 → kd ≠ 5 → kd ≠ 6 → kd ≠ 7 → kd ≠ 2 → kd ≠ 3 → (⟨aw, sh0, sd0, sgs⟩ : RS) = rowTo xs (Z.take (k + 1))) := hideP (fun h1 h5 h6 h7 h2 h3 => by rw [← HST.out]; exact (rowStep_0 h1 h2 h3 h5 h6 h7).symm)
   clear HS HNI HST HIn HTK HRI HZP HG HR HL
   go_wp2_with (first
    | (go_at_call 105; refine (Shr.mostI_any _ _ _).mono ?_; rintro e w2 ⟨rfl, rfl⟩)
    | (at_builtin; refine wpList_append_own_at _ rfl _ _ 138 rfl w.heap.size 33 i0 (.agg #[.int .i64 0, .int .i64 0, .int .i64 0, .int .i64 0, .int .i64 0]) 5 40 Tryz.underlying138 hi hz0 hz1 hz2 rfl (by decide) u9 m (f5 sgs) rfl (World.ownsRow.alloc (RInv.own' HJ1.out HM.out) _) ⟨wr.heap.size + 1, 0, none⟩ 1 1 [.int .i64 gs, .int .i64 gp, .int .i64 gpo, .int .i64 gm, .int .i64 gmo] rfl rfl N5.out (one5 _ _ _ _ _) (by unfold maxLen; omega) (by omega) (by simp; omega) ?_; intro v6 w6 hown6 hgrow6 hnil6 hlies6; have J6 : Hid (RInv w w6 (.slice (some ⟨GZ, 0, none⟩) r ca) Z v6 (sgs ++ [⟨gs, gp, gpo, gm, gmo⟩])) := hideP (RInv.put HJ1.out (by rw [← HM.out]; exact hown6) hgrow6); clear hown6 hgrow6 hnil6 hlies6))
   ·exact ⟨⟨k + 1, _, m, RS.tall ⟨aw, sh0, sd0, sgs⟩ ⟨kd, wd, hh, dp, sh, fo, ch, nn, gs, gp, gpo, gm, gmo, tx, kids⟩, by omega, by go_num, hideP (TALL.out (by unfold tallB; simp only [‹(kd == 1) = true›, Bool.or_true, Bool.true_or])), rfl, rfl, rfl, rfl, HM, HJ1⟩, by simp [intOf]; omega⟩
   ·exact ⟨⟨k + 1, _, m, RS.tall ⟨aw, sh0, sd0, sgs⟩ ⟨kd, wd, hh, dp, sh, fo, ch, nn, gs, gp, gpo, gm, gmo, tx, kids⟩, by omega, by go_num, hideP (TALL.out (by unfold tallB; simp only [‹(kd == 5) = true›, Bool.or_true, Bool.true_or])), rfl, rfl, rfl, rfl, HM, HJ1⟩, by simp [intOf]; omega⟩
   ·exact ⟨⟨k + 1, _, m, RS.tall ⟨aw, sh0, sd0, sgs⟩ ⟨kd, wd, hh, dp, sh, fo, ch, nn, gs, gp, gpo, gm, gmo, tx, kids⟩, by omega, by go_num, hideP (TALL.out (by unfold tallB; simp only [‹(kd == 6) = true›, Bool.or_true, Bool.true_or])), rfl, rfl, rfl, rfl, HM, HJ1⟩, by simp [intOf]; omega⟩
   ·exact ⟨⟨k + 1, _, m, RS.tall ⟨aw, sh0, sd0, sgs⟩ ⟨kd, wd, hh, dp, sh, fo, ch, nn, gs, gp, gpo, gm, gmo, tx, kids⟩, by omega, by go_num, hideP (TALL.out (by unfold tallB; simp only [‹(kd == 7) = true›, Bool.or_true, Bool.true_or])), rfl, rfl, rfl, rfl, HM, HJ1⟩, by simp [intOf]; omega⟩
   ·exact ⟨⟨k + 1, _, m, RS.kern ⟨aw, sh0, sd0, sgs⟩ ⟨kd, wd, hh, dp, sh, fo, ch, nn, gs, gp, gpo, gm, gmo, tx, kids⟩, by omega, by go_num, hideP (KERN.out (beq_iff_eq.1 ‹(kd == 2) = true›)), rfl, rfl, rfl, rfl, HM, HJ1⟩, by simp [intOf]; omega⟩
   ·exact ⟨⟨k + 1, _, m + 1, RS.glue ⟨aw, sh0, sd0, sgs⟩ ⟨kd, wd, hh, dp, sh, fo, ch, nn, gs, gp, gpo, gm, gmo, tx, kids⟩, by omega, by go_num, hideP (GLUE.out (beq_iff_eq.1 ‹(kd == 3) = true›)), rfl, rfl, rfl, rfl, hideP (by rw [HM.out]; simp [RS.glue]), ‹Hid (RInv w _ _ Z _ (sgs ++ [_]))›⟩, by simp [intOf]; omega⟩
   ·exact ⟨⟨k + 1, _, m, ⟨aw, sh0, sd0, sgs⟩, by omega, by go_num, hideP (NONE.out (fun e => by subst e; exact absurd ‹((1 : Int) == 1) = false› (by decide)) (fun e => by subst e; exact absurd ‹((5 : Int) == 5) = false› (by decide)) (fun e => by subst e; exact absurd ‹((6 : Int) == 6) = false› (by decide)) (fun e => by subst e; exact absurd ‹((7 : Int) == 7) = false› (by decide)) (fun e => by subst e; exact absurd ‹((2 : Int) == 2) = false› (by decide)) (fun e => by subst e; exact absurd ‹((3 : Int) == 3) = false› (by decide))), rfl, rfl, rfl, rfl, HM, HJ1⟩, by simp [intOf]; omega⟩
  ·have hki : ¬ (k : Int) < (r : Int) := by omega
   have hE : s = rowTo xs Z := by rw [HS.out, show k = Z.length by rw [← HRZ.out]; omega, List.take_length]
   subst hE
   go_wp2
   refine bodyPost_ret (by simp [results, Tryz.results60, go_sem]; try rfl) rfl ?_
   exact ⟨⟨_, rfl, HJ.out.own⟩, HJ.out.bel⟩
theorem made4 {w : World} {base g : Nat} (h : w.ownsRow base 2 1 (.slice (some ⟨g, 0, none⟩) 4 4) 4 (madeCells (Value.cells (.int .i64 0)) (4 * 1)).toList) : IntsL w g 2 [0, 0, 0, 0] := by
 rcases h.2 with ⟨h0, _⟩ | ⟨g', cap, cur, e, _, hg, _, _, hs, ht⟩
 ·cases h0
 ·simp only [Value.slice.injEq, Option.some.injEq, Addr.mk.injEq, and_true, true_and] at e
  obtain ⟨rfl, rfl⟩ := e
  unfold IntsL
  rw [hg]
  have h1 : cur.toList = (madeCells (Value.cells (.int .i64 0)) (4 * 1)).toList := by
   rw [List.take_of_length_le (by rw [Array.length_toList, hs]; exact Nat.le_refl _)] at ht
   exact ht
  have h2 : cur = #[.int .i64 0, .int .i64 0, .int .i64 0, .int .i64 0] := by
   apply Array.toList_inj.1
   rw [h1]
   kernel_rfl
  rw [h2]
  rfl
theorem info2q : (Tryz.prog.info? 2).map (fun i => (i.zero, i.size, i.bytes)) = some (some (.int .i64 0), 1, 8) := by kernel_rfl
theorem own_heap {w w' : World} {base e size n : Nat} {v : Value} {xs : List Value} (h : w.ownsRow base e size v n xs) (hb : ∀ g, v.ownBlock = some g → w'.heap[g]? = w.heap[g]?) : w'.ownsRow base e size v n xs := by
 refine ⟨h.1, ?_⟩
 rcases h.2 with h0 | ⟨g, cap, cur, rfl, h2, h3, h4⟩
 ·exact .inl h0
 ·exact .inr ⟨g, cap, cur, rfl, h2, (hb g rfl).trans h3, h4⟩
theorem Fr3.trans {A P M : Nat} {w W X : World} (h : Fr3 A P M w W) (g : Fr3 A P M W X) : Fr3 A P M w X :=
 ⟨g.1.trans h.1, g.2.1.trans h.2.1, g.2.2.1.trans h.2.2.1, Nat.le_trans h.2.2.2.1 g.2.2.2.1, fun k hk h1 h2 h3 => (g.2.2.2.2 k (Nat.lt_of_lt_of_le hk h.2.2.2.1) h1 h2 h3).trans (h.2.2.2.2 k hk h1 h2 h3)⟩
def gsZ (s : RS) (k : Nat) : List Int := (s.gs.take k).foldl (fun zs g => glA 0 g.po.toNat g.mo.toNat g.s g.p g.m zs) [s.w, 0, 0, 0, 0, 0, 0, 0, 0]
theorem gsZ_succ (s : RS) {k : Nat} (hk : k < s.gs.length) : gsZ s (k + 1) = glA 0 (s.gs.getD k ⟨0, 0, 0, 0, 0⟩).po.toNat (s.gs.getD k ⟨0, 0, 0, 0, 0⟩).mo.toNat (s.gs.getD k ⟨0, 0, 0, 0, 0⟩).s (s.gs.getD k ⟨0, 0, 0, 0, 0⟩).p (s.gs.getD k ⟨0, 0, 0, 0, 0⟩).m (gsZ s k) := by
 unfold gsZ
 rw [take_snoc s.gs k ⟨0, 0, 0, 0, 0⟩ hk, List.foldl_append]
 rfl
theorem gsZ_len (s : RS) : ∀ k, (gsZ s k).length = 9
 | 0 => rfl
 | k + 1 => by
  by_cases hk : k < s.gs.length
  ·rw [gsZ_succ s hk, glA_len]
   exact gsZ_len s k
  ·have : gsZ s (k + 1) = gsZ s k := by unfold gsZ; rw [List.take_of_length_le (by omega), List.take_of_length_le (by omega)]
   rw [this]
   exact gsZ_len s k
theorem f5_at (gs : List Shr.Gl) (k : Nat) (hk : k < gs.length) : ∀ j, j < 5 → (f5 gs)[k * 5 + j]? = [Value.int .i64 (gs.getD k ⟨0, 0, 0, 0, 0⟩).s, .int .i64 (gs.getD k ⟨0, 0, 0, 0, 0⟩).p, .int .i64 (gs.getD k ⟨0, 0, 0, 0, 0⟩).po, .int .i64 (gs.getD k ⟨0, 0, 0, 0, 0⟩).m, .int .i64 (gs.getD k ⟨0, 0, 0, 0, 0⟩).mo][j]? := by
 induction gs generalizing k with
 | nil => simp at hk
 | cons g gs ih =>
  intro j hj
  have e : f5 (g :: gs) = [Value.int .i64 g.s, .int .i64 g.p, .int .i64 g.po, .int .i64 g.m, .int .i64 g.mo] ++ f5 gs := rfl
  cases k with
  | zero =>
   rw [e, List.getElem?_append_left (by simp; omega), Nat.zero_mul, Nat.zero_add]
   rfl
  | succ k =>
   rw [e, List.getElem?_append_right (by simp; omega)]
   have h := ih k (by simpa using hk) j hj
   simp only [List.length_cons, List.length_nil]
   rw [show (k + 1) * 5 + j - (0 + 1 + 1 + 1 + 1 + 1) = k * 5 + j by omega, h]
   rfl
set_option maxRecDepth 20000 in
set_option maxHeartbeats 16000000 in
theorem l9Measure_any {v : Value} {xs : List Nd} {w : World} (h : NRow 0 w v xs) (hok : AllOk9 xs) (hg : ∀ i, i < xs.length → NdIn (xs.getD i Nd.none)) (s : RS) (hs : s = rowTo xs (starts xs (xs.length + 1) 0)) (hgs : ∀ g ∈ s.gs, g.ok = true) :
 Calls Tryz.prog 24 #[v] w fun e w' => (∃ P M, e = .returned (.agg #[.int .i64 ((gsZ s s.gs.length).getD 0 0), .slice (some ⟨P, 0, none⟩) 4 4, .slice (some ⟨M, 0, none⟩) 4 4]) ∧ IntsL w' P 2 (Shr.pl4 (gsZ s s.gs.length)) ∧ IntsL w' M 2 (Shr.mi4 (gsZ s s.gs.length))) ∧ Below w.heap.size w w' := by
 have RC : Hid (∀ W, Below w.heap.size w W → Calls Tryz.prog 60 #[v] W fun e w' => (∃ u, e = .returned (.tuple #[.int .i64 s.w, u, .int .i64 s.h, .int .i64 s.d]) ∧ w'.ownsRow W.heap.size 33 5 u s.gs.length (f5 s.gs)) ∧ Below W.heap.size W w') := hideP (fun W hW => by rw [hs]; exact specRow9_any (h.below ndStable hW) hok hg)
 obtain ⟨ao, n, cap, rfl, _, _⟩ := h
 obtain ⟨r, hr⟩ : ∃ r, r = s.gs.length := ⟨_, rfl⟩
 rw [← hr] at RC ⊢
 have hr5 : r ≤ 20010 := by
  have h1 := rowTo_in xs hg (starts xs (xs.length + 1) 0) (fun p hp => starts_lt xs _ _ p hp)
  rw [← hs] at h1
  have h2 := h1.n
  have h3 := starts_count (xs := xs) (xs.length + 1) 0
  have h4 := hok.len
  omega
 have HRG := hideP hr
 obtain ⟨ZF, hZF⟩ : ∃ Z, Z = gsZ s r := ⟨_, rfl⟩
 obtain ⟨y, hy⟩ : ∃ y, y = ZF.getD 0 0 := ⟨_, rfl⟩
 rw [← hZF, ← hy]
 have HZF := hideP hZF
 have HY := hideP hy
 clear hZF hy
 have HGS := hideP hgs
 clear hs hgs hok hg hr
 obtain ⟨i0, hi0, hz0, hz1, hz2⟩ := info_parts info2q
 obtain ⟨x, hx⟩ : ∃ x, x = s.w := ⟨_, rfl⟩
 rw [← hx] at RC
 have Z0 : Hid ((gsZ s 0).getD 0 0 = x ∧ Shr.pl4 (gsZ s 0) = [0, 0, 0, 0] ∧ Shr.mi4 (gsZ s 0) = [0, 0, 0, 0]) := hideP (by rw [hx]; exact ⟨rfl, rfl, rfl⟩)
 clear hx
 go_enter Tryz.func24, Tryz.ntmps24
 go_wp2_with fail
 obtain ⟨W0, hW0⟩ : ∃ X, X = w.alloc (.cells #[.int .i64 0, .slice none 0 0, .slice none 0 0] 65) := ⟨_, rfl⟩
 have B0 : Hid (Below w.heap.size w W0) := hideP (by rw [hW0]; exact below1 _ _)
 have A0 : Hid (W0.heap[w.heap.size]? = some (.cells #[.int .i64 0, .slice none 0 0, .slice none 0 0] 65 (0, 0))) := hideP (by rw [hW0]; exact heap_alloc_new _ _)
 rw [← hW0]
 have hz9 : w.heap.size < W0.heap.size := by rw [hW0]; simp
 clear hW0
 refine (RC.out W0 B0.out).mono ?_
 rintro e V ⟨⟨u, rfl, hu⟩, hbV⟩
 have U1 := hideP hu
 obtain ⟨ua, uc, rfl⟩ := ownG_shape hu
 have BV : Hid (Below w.heap.size w V) := hideP (below_more B0.out hbV B0.out.size)
 have AV : Hid (V.heap[w.heap.size]? = some (.cells #[.int .i64 0, .slice none 0 0, .slice none 0 0] 65 (0, 0))) := hideP ((hbV.block _ hz9).trans A0.out)
 have hzV : w.heap.size < V.heap.size := Nat.lt_of_lt_of_le hz9 hbV.size
 clear hu hbV RC A0 B0
 obtain ⟨LO, hLO⟩ : ∃ L, L = V.heap.size := ⟨_, rfl⟩
 have HLO := hideP hLO
 clear hLO
 go_upto_region 2 with fail
 go_cut [7] (fun s7 wc => ∃ A P M, s7 = .pointer (some ⟨A, 0, none⟩) ∧ Hid (SmP wc A P M x [0, 0, 0, 0] [0, 0, 0, 0] ∧ (LO ≤ A ∧ LO ≤ P ∧ LO ≤ M) ∧ Below LO V wc))
 case first =>
  refine wp_noPanic ?_
  refine wp_region_held_drew (S := fun _ => True) (by kernel_rfl) trivial (fun _ => ?_)
  obtain ⟨v0, hv0⟩ : ∃ X, X = V.drew := ⟨_, rfl⟩
  have b0 : Below LO V v0 := by rw [hv0, HLO.out]; exact Below.drew (Below.refl _ _)
  have hLV : LO ≤ V.heap.size := by rw [HLO.out]; exact Nat.le_refl _
  rw [← hv0]
  clear hv0
  refine tkS (i := 0) (v := .int .i64 x) rfl trivial ?_
  try simp only [Act.put, List.getElem_toArray, List.getElem_cons_zero, List.getElem_cons_succ, List.setIfInBounds_toArray, List.set_cons_zero, List.set_cons_succ]
  refine wpAnyH_ready (rs := [1, 2, 4]) (by kernel_rfl) (by simp) ?_
  refine AllReadyH.cons rfl (fun K hK => ?_) (AllReadyH.cons rfl (fun K hK => ?_) (AllReadyH.cons rfl (fun K hK => ?_) AllReadyH.nil))
  ·rw [if_pos (by first | rfl | go_simp)]
   refine wp_make_at _ _ 27 rfl LO 2 i0 (.int .i64 0) 1 Tryz.underlying27 hi0 hz0 hz1 .i64 .i64 4 4 4 rfl rfl rfl rfl (by rw [show i0.bytes = 8 from hz2]; omega) (by unfold maxLen; omega) (by have := b0.size; omega) ?_
   intro v1 ho hg
   obtain ⟨P, hP⟩ : ∃ X, X = v0.heap.size := ⟨_, rfl⟩
   rw [← hP] at ho ⊢
   have HP := hideP hP
   clear hP
   have c1 : Below v0.heap.size v0 v1 := Below.grown (Below.refl _ _) hg (Nat.le_refl _) (by simp)
   have b1 : Below LO V v1 := below_more b0 c1 (by have := b0.size; omega)
   have IP1 : IntsL v1 P 2 [0, 0, 0, 0] := made4 ho
   have lP : P < v1.heap.size := IP1.lt
   clear ho hg
   refine hK.out _ _ trivial (fun _ => ?_)
   try simp only [Act.put, List.getElem_toArray, List.getElem_cons_zero, List.getElem_cons_succ, List.setIfInBounds_toArray, List.set_cons_zero, List.set_cons_succ]
   clear hK K
   refine wpAnyH_ready (rs := [2, 4]) (by kernel_rfl) (by simp) ?_
   refine AllReadyH.cons rfl (fun K hK => ?_) (AllReadyH.cons rfl (fun K hK => ?_) AllReadyH.nil)
   ·rw [if_pos (by first | rfl | go_simp)]
    refine wp_make_at _ _ 27 rfl LO 2 i0 (.int .i64 0) 1 Tryz.underlying27 hi0 hz0 hz1 .i64 .i64 4 4 4 rfl rfl rfl rfl (by rw [show i0.bytes = 8 from hz2]; omega) (by unfold maxLen; omega) (by have := b1.size; omega) ?_
    intro v2 ho hg
    obtain ⟨M, hM⟩ : ∃ X, X = v1.heap.size := ⟨_, rfl⟩
    rw [← hM] at ho ⊢
    have HM := hideP hM
    clear hM
    have c2 : Below v1.heap.size v1 v2 := Below.grown (Below.refl _ _) hg (Nat.le_refl _) (by simp)
    have b2 : Below LO V v2 := below_more b1 c2 (by have := b1.size; omega)
    have IM2 : IntsL v2 M 2 [0, 0, 0, 0] := made4 ho
    have IP2 := IP1.below c2
    have lM : M < v2.heap.size := IM2.lt
    clear ho hg
    refine hK.out _ _ trivial (fun _ => ?_)
    try simp only [Act.put, List.getElem_toArray, List.getElem_cons_zero, List.getElem_cons_succ, List.setIfInBounds_toArray, List.set_cons_zero, List.set_cons_succ]
    clear hK K
    refine tkS (i := 3) (v := .agg #[.int .i64 x, .slice (some ⟨P, 0, none⟩) 4 4, .slice (some ⟨M, 0, none⟩) 4 4]) rfl trivial ?_
    try simp only [Act.put, List.getElem_toArray, List.getElem_cons_zero, List.getElem_cons_succ, List.setIfInBounds_toArray, List.set_cons_zero, List.set_cons_succ]
    refine rdS (i := 4) rfl (fun K hK => ?_)
    go_simp
    obtain ⟨A, hA⟩ : ∃ X, X = v2.heap.size := ⟨_, rfl⟩
    obtain ⟨v3, hv3⟩ : ∃ X, X = v2.alloc (.cells #[.int .i64 0, .slice none 0 0, .slice none 0 0] 65) := ⟨_, rfl⟩
    rw [← hv3, ← hA]
    have c3 : Below v2.heap.size v2 v3 := by rw [hv3]; exact below1 _ _
    have b3 : Below LO V v3 := below_more b2 c3 (by have := b2.size; omega)
    have IA3 : v3.heap[A]? = some (.cells #[.int .i64 0, .slice none 0 0, .slice none 0 0] 65 (0, 0)) := by rw [hv3, hA]; exact heap_alloc_new _ _
    have HA := hideP hA
    have IP3 := IP2.below c3
    have IM3 := IM2.below c3
    have lA : A < v3.heap.size := by rw [hv3, hA]; simp
    clear hv3 hA
    refine hK.out _ _ trivial (fun _ => ?_)
    try simp only [Act.put, List.getElem_toArray, List.getElem_cons_zero, List.getElem_cons_succ, List.setIfInBounds_toArray, List.set_cons_zero, List.set_cons_succ]
    clear hK K
    have z1 : LO ≤ A ∧ LO ≤ P ∧ LO ≤ M := by have := HA.out; have := HP.out; have := HM.out; have := b0.size; have := b1.size; have := b2.size; omega
    have n1 : A ≠ P := by have := HA.out; have := HP.out; have := HM.out; have := c1.size; have := c2.size; have := c3.size; omega
    have n2 : A ≠ M := by have := HA.out; have := HP.out; have := HM.out; have := c1.size; have := c2.size; have := c3.size; omega
    have n3 : P ≠ M := by have := HA.out; have := HP.out; have := HM.out; have := c1.size; have := c2.size; have := c3.size; omega
    have q0 : v3.cell? ⟨A, 0, none⟩ = some (.int .i64 0) := by rw [cell_of_row _ _ _ _ _ _ IA3]; rfl
    have q1 : v3.cell? ⟨A, 1, none⟩ = some (.slice none 0 0) := by rw [cell_of_row _ _ _ _ _ _ IA3]; rfl
    have q2 : v3.cell? ⟨A, 2, none⟩ = some (.slice none 0 0) := by rw [cell_of_row _ _ _ _ _ _ IA3]; rfl
    have fz : ∀ j, v3.frozen? ⟨A, j, none⟩ = false := fun j => frozen_of_row _ _ j _ 65 IA3
    refine rdS (i := 5) rfl (fun K hK => ?_)
    go_simp
    obtain ⟨X, hX⟩ : ∃ X, X = ((v3.setCell ⟨A, 0, none⟩ (.int .i64 x)).setCell ⟨A, 1, none⟩ (.slice (some ⟨P, 0, none⟩) 4 4)).setCell ⟨A, 2, none⟩ (.slice (some ⟨M, 0, none⟩) 4 4) := ⟨_, rfl⟩
    rw [← hX]
    have FX : Fr A v3 X := by rw [hX]; exact (((Fr.refl A v3).set 0 _).set 1 _).set 2 _
    have SX : SmP X A P M x [0, 0, 0, 0] [0, 0, 0, 0] := ⟨by rw [hX]; exact heap_setCell_same _ _ 2 _ 65 _ (heap_setCell_same _ _ 1 _ 65 _ (heap_setCell_same _ _ 0 _ 65 _ IA3)), (FX.2.2.2.2 P IP3.lt (Ne.symm n1)).trans IP3, (FX.2.2.2.2 M IM3.lt (Ne.symm n2)).trans IM3, ⟨n1, n2, n3⟩, rfl, rfl⟩
    have BX : Below LO V X := ⟨FX.1.trans b3.os, FX.2.1.trans b3.tape, FX.2.2.1.trans b3.output, Nat.le_trans b3.size FX.2.2.2.1, fun k hk => (FX.2.2.2.2 k (by have := b3.size; omega) (by omega)).trans (b3.block k hk)⟩
    clear hX
    refine hK.out _ _ trivial (fun _ => ?_)
    try simp only [Act.put, List.getElem_toArray, List.getElem_cons_zero, List.getElem_cons_succ, List.setIfInBounds_toArray, List.set_cons_zero, List.set_cons_succ]
    clear hK K
    refine wpAnyH_done (by kernel_rfl) ?_ _
    go_wp2_with fail
    go_meet
    case rel => exact ⟨A, P, M, rfl, hideP ⟨SX, z1, BX⟩⟩
   ·rw [if_pos (by first | rfl | go_simp)]
    go_simp
    obtain ⟨A, hA⟩ : ∃ X, X = v1.heap.size := ⟨_, rfl⟩
    obtain ⟨v2, hv2⟩ : ∃ X, X = v1.alloc (.cells #[.int .i64 0, .slice none 0 0, .slice none 0 0] 65) := ⟨_, rfl⟩
    rw [← hv2, ← hA]
    have c2 : Below v1.heap.size v1 v2 := by rw [hv2]; exact below1 _ _
    have b2 : Below LO V v2 := below_more b1 c2 (by have := b1.size; omega)
    have IA2 : v2.heap[A]? = some (.cells #[.int .i64 0, .slice none 0 0, .slice none 0 0] 65 (0, 0)) := by rw [hv2, hA]; exact heap_alloc_new _ _
    have HA := hideP hA
    have IP2 := IP1.below c2
    have lA : A < v2.heap.size := by rw [hv2, hA]; simp
    clear hv2 hA
    refine hK.out _ _ trivial (fun _ => ?_)
    try simp only [Act.put, List.getElem_toArray, List.getElem_cons_zero, List.getElem_cons_succ, List.setIfInBounds_toArray, List.set_cons_zero, List.set_cons_succ]
    clear hK K
    refine rdS (i := 2) rfl (fun K hK => ?_)
    refine wp_make_at _ _ 27 rfl LO 2 i0 (.int .i64 0) 1 Tryz.underlying27 hi0 hz0 hz1 .i64 .i64 4 4 4 rfl rfl rfl rfl (by rw [show i0.bytes = 8 from hz2]; omega) (by unfold maxLen; omega) (by have := b2.size; omega) ?_
    intro v3 ho hg
    obtain ⟨M, hM⟩ : ∃ X, X = v2.heap.size := ⟨_, rfl⟩
    rw [← hM] at ho ⊢
    have HM := hideP hM
    clear hM
    have c3 : Below v2.heap.size v2 v3 := Below.grown (Below.refl _ _) hg (Nat.le_refl _) (by simp)
    have b3 : Below LO V v3 := below_more b2 c3 (by have := b2.size; omega)
    have IM3 : IntsL v3 M 2 [0, 0, 0, 0] := made4 ho
    have IP3 := IP2.below c3
    have IA3 : v3.heap[A]? = some (.cells #[.int .i64 0, .slice none 0 0, .slice none 0 0] 65 (0, 0)) := (c3.block A (by first | omega | (have := c2.size; omega))).trans IA2
    have lM : M < v3.heap.size := IM3.lt
    clear ho hg
    refine hK.out _ _ trivial (fun _ => ?_)
    try simp only [Act.put, List.getElem_toArray, List.getElem_cons_zero, List.getElem_cons_succ, List.setIfInBounds_toArray, List.set_cons_zero, List.set_cons_succ]
    clear hK K
    refine tkS (i := 3) (v := .agg #[.int .i64 x, .slice (some ⟨P, 0, none⟩) 4 4, .slice (some ⟨M, 0, none⟩) 4 4]) rfl trivial ?_
    try simp only [Act.put, List.getElem_toArray, List.getElem_cons_zero, List.getElem_cons_succ, List.setIfInBounds_toArray, List.set_cons_zero, List.set_cons_succ]
    have z1 : LO ≤ A ∧ LO ≤ P ∧ LO ≤ M := by have := HA.out; have := HP.out; have := HM.out; have := b0.size; have := b1.size; have := b2.size; omega
    have n1 : A ≠ P := by have := HA.out; have := HP.out; have := HM.out; have := c1.size; have := c2.size; have := c3.size; omega
    have n2 : A ≠ M := by have := HA.out; have := HP.out; have := HM.out; have := c1.size; have := c2.size; have := c3.size; omega
    have n3 : P ≠ M := by have := HA.out; have := HP.out; have := HM.out; have := c1.size; have := c2.size; have := c3.size; omega
    have q0 : v3.cell? ⟨A, 0, none⟩ = some (.int .i64 0) := by rw [cell_of_row _ _ _ _ _ _ IA3]; rfl
    have q1 : v3.cell? ⟨A, 1, none⟩ = some (.slice none 0 0) := by rw [cell_of_row _ _ _ _ _ _ IA3]; rfl
    have q2 : v3.cell? ⟨A, 2, none⟩ = some (.slice none 0 0) := by rw [cell_of_row _ _ _ _ _ _ IA3]; rfl
    have fz : ∀ j, v3.frozen? ⟨A, j, none⟩ = false := fun j => frozen_of_row _ _ j _ 65 IA3
    refine rdS (i := 5) rfl (fun K hK => ?_)
    go_simp
    obtain ⟨X, hX⟩ : ∃ X, X = ((v3.setCell ⟨A, 0, none⟩ (.int .i64 x)).setCell ⟨A, 1, none⟩ (.slice (some ⟨P, 0, none⟩) 4 4)).setCell ⟨A, 2, none⟩ (.slice (some ⟨M, 0, none⟩) 4 4) := ⟨_, rfl⟩
    rw [← hX]
    have FX : Fr A v3 X := by rw [hX]; exact (((Fr.refl A v3).set 0 _).set 1 _).set 2 _
    have SX : SmP X A P M x [0, 0, 0, 0] [0, 0, 0, 0] := ⟨by rw [hX]; exact heap_setCell_same _ _ 2 _ 65 _ (heap_setCell_same _ _ 1 _ 65 _ (heap_setCell_same _ _ 0 _ 65 _ IA3)), (FX.2.2.2.2 P IP3.lt (Ne.symm n1)).trans IP3, (FX.2.2.2.2 M IM3.lt (Ne.symm n2)).trans IM3, ⟨n1, n2, n3⟩, rfl, rfl⟩
    have BX : Below LO V X := ⟨FX.1.trans b3.os, FX.2.1.trans b3.tape, FX.2.2.1.trans b3.output, Nat.le_trans b3.size FX.2.2.2.1, fun k hk => (FX.2.2.2.2 k (by have := b3.size; omega) (by omega)).trans (b3.block k hk)⟩
    clear hX
    refine hK.out _ _ trivial (fun _ => ?_)
    try simp only [Act.put, List.getElem_toArray, List.getElem_cons_zero, List.getElem_cons_succ, List.setIfInBounds_toArray, List.set_cons_zero, List.set_cons_succ]
    clear hK K
    refine wpAnyH_done (by kernel_rfl) ?_ _
    go_wp2_with fail
    go_meet
    case rel => exact ⟨A, P, M, rfl, hideP ⟨SX, z1, BX⟩⟩
  ·rw [if_pos (by first | rfl | go_simp)]
   refine wp_make_at _ _ 27 rfl LO 2 i0 (.int .i64 0) 1 Tryz.underlying27 hi0 hz0 hz1 .i64 .i64 4 4 4 rfl rfl rfl rfl (by rw [show i0.bytes = 8 from hz2]; omega) (by unfold maxLen; omega) (by have := b0.size; omega) ?_
   intro v1 ho hg
   obtain ⟨M, hM⟩ : ∃ X, X = v0.heap.size := ⟨_, rfl⟩
   rw [← hM] at ho ⊢
   have HM := hideP hM
   clear hM
   have c1 : Below v0.heap.size v0 v1 := Below.grown (Below.refl _ _) hg (Nat.le_refl _) (by simp)
   have b1 : Below LO V v1 := below_more b0 c1 (by have := b0.size; omega)
   have IM1 : IntsL v1 M 2 [0, 0, 0, 0] := made4 ho
   have lM : M < v1.heap.size := IM1.lt
   clear ho hg
   refine hK.out _ _ trivial (fun _ => ?_)
   try simp only [Act.put, List.getElem_toArray, List.getElem_cons_zero, List.getElem_cons_succ, List.setIfInBounds_toArray, List.set_cons_zero, List.set_cons_succ]
   clear hK K
   refine wpAnyH_ready (rs := [1, 4]) (by kernel_rfl) (by simp) ?_
   refine AllReadyH.cons rfl (fun K hK => ?_) (AllReadyH.cons rfl (fun K hK => ?_) AllReadyH.nil)
   ·rw [if_pos (by first | rfl | go_simp)]
    refine wp_make_at _ _ 27 rfl LO 2 i0 (.int .i64 0) 1 Tryz.underlying27 hi0 hz0 hz1 .i64 .i64 4 4 4 rfl rfl rfl rfl (by rw [show i0.bytes = 8 from hz2]; omega) (by unfold maxLen; omega) (by have := b1.size; omega) ?_
    intro v2 ho hg
    obtain ⟨P, hP⟩ : ∃ X, X = v1.heap.size := ⟨_, rfl⟩
    rw [← hP] at ho ⊢
    have HP := hideP hP
    clear hP
    have c2 : Below v1.heap.size v1 v2 := Below.grown (Below.refl _ _) hg (Nat.le_refl _) (by simp)
    have b2 : Below LO V v2 := below_more b1 c2 (by have := b1.size; omega)
    have IP2 : IntsL v2 P 2 [0, 0, 0, 0] := made4 ho
    have IM2 := IM1.below c2
    have lP : P < v2.heap.size := IP2.lt
    clear ho hg
    refine hK.out _ _ trivial (fun _ => ?_)
    try simp only [Act.put, List.getElem_toArray, List.getElem_cons_zero, List.getElem_cons_succ, List.setIfInBounds_toArray, List.set_cons_zero, List.set_cons_succ]
    clear hK K
    refine tkS (i := 3) (v := .agg #[.int .i64 x, .slice (some ⟨P, 0, none⟩) 4 4, .slice (some ⟨M, 0, none⟩) 4 4]) rfl trivial ?_
    try simp only [Act.put, List.getElem_toArray, List.getElem_cons_zero, List.getElem_cons_succ, List.setIfInBounds_toArray, List.set_cons_zero, List.set_cons_succ]
    refine rdS (i := 4) rfl (fun K hK => ?_)
    go_simp
    obtain ⟨A, hA⟩ : ∃ X, X = v2.heap.size := ⟨_, rfl⟩
    obtain ⟨v3, hv3⟩ : ∃ X, X = v2.alloc (.cells #[.int .i64 0, .slice none 0 0, .slice none 0 0] 65) := ⟨_, rfl⟩
    rw [← hv3, ← hA]
    have c3 : Below v2.heap.size v2 v3 := by rw [hv3]; exact below1 _ _
    have b3 : Below LO V v3 := below_more b2 c3 (by have := b2.size; omega)
    have IA3 : v3.heap[A]? = some (.cells #[.int .i64 0, .slice none 0 0, .slice none 0 0] 65 (0, 0)) := by rw [hv3, hA]; exact heap_alloc_new _ _
    have HA := hideP hA
    have IM3 := IM2.below c3
    have IP3 := IP2.below c3
    have lA : A < v3.heap.size := by rw [hv3, hA]; simp
    clear hv3 hA
    refine hK.out _ _ trivial (fun _ => ?_)
    try simp only [Act.put, List.getElem_toArray, List.getElem_cons_zero, List.getElem_cons_succ, List.setIfInBounds_toArray, List.set_cons_zero, List.set_cons_succ]
    clear hK K
    have z1 : LO ≤ A ∧ LO ≤ P ∧ LO ≤ M := by have := HA.out; have := HP.out; have := HM.out; have := b0.size; have := b1.size; have := b2.size; omega
    have n1 : A ≠ P := by have := HA.out; have := HP.out; have := HM.out; have := c1.size; have := c2.size; have := c3.size; omega
    have n2 : A ≠ M := by have := HA.out; have := HP.out; have := HM.out; have := c1.size; have := c2.size; have := c3.size; omega
    have n3 : P ≠ M := by have := HA.out; have := HP.out; have := HM.out; have := c1.size; have := c2.size; have := c3.size; omega
    have q0 : v3.cell? ⟨A, 0, none⟩ = some (.int .i64 0) := by rw [cell_of_row _ _ _ _ _ _ IA3]; rfl
    have q1 : v3.cell? ⟨A, 1, none⟩ = some (.slice none 0 0) := by rw [cell_of_row _ _ _ _ _ _ IA3]; rfl
    have q2 : v3.cell? ⟨A, 2, none⟩ = some (.slice none 0 0) := by rw [cell_of_row _ _ _ _ _ _ IA3]; rfl
    have fz : ∀ j, v3.frozen? ⟨A, j, none⟩ = false := fun j => frozen_of_row _ _ j _ 65 IA3
    refine rdS (i := 5) rfl (fun K hK => ?_)
    go_simp
    obtain ⟨X, hX⟩ : ∃ X, X = ((v3.setCell ⟨A, 0, none⟩ (.int .i64 x)).setCell ⟨A, 1, none⟩ (.slice (some ⟨P, 0, none⟩) 4 4)).setCell ⟨A, 2, none⟩ (.slice (some ⟨M, 0, none⟩) 4 4) := ⟨_, rfl⟩
    rw [← hX]
    have FX : Fr A v3 X := by rw [hX]; exact (((Fr.refl A v3).set 0 _).set 1 _).set 2 _
    have SX : SmP X A P M x [0, 0, 0, 0] [0, 0, 0, 0] := ⟨by rw [hX]; exact heap_setCell_same _ _ 2 _ 65 _ (heap_setCell_same _ _ 1 _ 65 _ (heap_setCell_same _ _ 0 _ 65 _ IA3)), (FX.2.2.2.2 P IP3.lt (Ne.symm n1)).trans IP3, (FX.2.2.2.2 M IM3.lt (Ne.symm n2)).trans IM3, ⟨n1, n2, n3⟩, rfl, rfl⟩
    have BX : Below LO V X := ⟨FX.1.trans b3.os, FX.2.1.trans b3.tape, FX.2.2.1.trans b3.output, Nat.le_trans b3.size FX.2.2.2.1, fun k hk => (FX.2.2.2.2 k (by have := b3.size; omega) (by omega)).trans (b3.block k hk)⟩
    clear hX
    refine hK.out _ _ trivial (fun _ => ?_)
    try simp only [Act.put, List.getElem_toArray, List.getElem_cons_zero, List.getElem_cons_succ, List.setIfInBounds_toArray, List.set_cons_zero, List.set_cons_succ]
    clear hK K
    refine wpAnyH_done (by kernel_rfl) ?_ _
    go_wp2_with fail
    go_meet
    case rel => exact ⟨A, P, M, rfl, hideP ⟨SX, z1, BX⟩⟩
   ·rw [if_pos (by first | rfl | go_simp)]
    go_simp
    obtain ⟨A, hA⟩ : ∃ X, X = v1.heap.size := ⟨_, rfl⟩
    obtain ⟨v2, hv2⟩ : ∃ X, X = v1.alloc (.cells #[.int .i64 0, .slice none 0 0, .slice none 0 0] 65) := ⟨_, rfl⟩
    rw [← hv2, ← hA]
    have c2 : Below v1.heap.size v1 v2 := by rw [hv2]; exact below1 _ _
    have b2 : Below LO V v2 := below_more b1 c2 (by have := b1.size; omega)
    have IA2 : v2.heap[A]? = some (.cells #[.int .i64 0, .slice none 0 0, .slice none 0 0] 65 (0, 0)) := by rw [hv2, hA]; exact heap_alloc_new _ _
    have HA := hideP hA
    have IM2 := IM1.below c2
    have lA : A < v2.heap.size := by rw [hv2, hA]; simp
    clear hv2 hA
    refine hK.out _ _ trivial (fun _ => ?_)
    try simp only [Act.put, List.getElem_toArray, List.getElem_cons_zero, List.getElem_cons_succ, List.setIfInBounds_toArray, List.set_cons_zero, List.set_cons_succ]
    clear hK K
    refine rdS (i := 1) rfl (fun K hK => ?_)
    refine wp_make_at _ _ 27 rfl LO 2 i0 (.int .i64 0) 1 Tryz.underlying27 hi0 hz0 hz1 .i64 .i64 4 4 4 rfl rfl rfl rfl (by rw [show i0.bytes = 8 from hz2]; omega) (by unfold maxLen; omega) (by have := b2.size; omega) ?_
    intro v3 ho hg
    obtain ⟨P, hP⟩ : ∃ X, X = v2.heap.size := ⟨_, rfl⟩
    rw [← hP] at ho ⊢
    have HP := hideP hP
    clear hP
    have c3 : Below v2.heap.size v2 v3 := Below.grown (Below.refl _ _) hg (Nat.le_refl _) (by simp)
    have b3 : Below LO V v3 := below_more b2 c3 (by have := b2.size; omega)
    have IP3 : IntsL v3 P 2 [0, 0, 0, 0] := made4 ho
    have IM3 := IM2.below c3
    have IA3 : v3.heap[A]? = some (.cells #[.int .i64 0, .slice none 0 0, .slice none 0 0] 65 (0, 0)) := (c3.block A (by first | omega | (have := c2.size; omega))).trans IA2
    have lP : P < v3.heap.size := IP3.lt
    clear ho hg
    refine hK.out _ _ trivial (fun _ => ?_)
    try simp only [Act.put, List.getElem_toArray, List.getElem_cons_zero, List.getElem_cons_succ, List.setIfInBounds_toArray, List.set_cons_zero, List.set_cons_succ]
    clear hK K
    refine tkS (i := 3) (v := .agg #[.int .i64 x, .slice (some ⟨P, 0, none⟩) 4 4, .slice (some ⟨M, 0, none⟩) 4 4]) rfl trivial ?_
    try simp only [Act.put, List.getElem_toArray, List.getElem_cons_zero, List.getElem_cons_succ, List.setIfInBounds_toArray, List.set_cons_zero, List.set_cons_succ]
    have z1 : LO ≤ A ∧ LO ≤ P ∧ LO ≤ M := by have := HA.out; have := HP.out; have := HM.out; have := b0.size; have := b1.size; have := b2.size; omega
    have n1 : A ≠ P := by have := HA.out; have := HP.out; have := HM.out; have := c1.size; have := c2.size; have := c3.size; omega
    have n2 : A ≠ M := by have := HA.out; have := HP.out; have := HM.out; have := c1.size; have := c2.size; have := c3.size; omega
    have n3 : P ≠ M := by have := HA.out; have := HP.out; have := HM.out; have := c1.size; have := c2.size; have := c3.size; omega
    have q0 : v3.cell? ⟨A, 0, none⟩ = some (.int .i64 0) := by rw [cell_of_row _ _ _ _ _ _ IA3]; rfl
    have q1 : v3.cell? ⟨A, 1, none⟩ = some (.slice none 0 0) := by rw [cell_of_row _ _ _ _ _ _ IA3]; rfl
    have q2 : v3.cell? ⟨A, 2, none⟩ = some (.slice none 0 0) := by rw [cell_of_row _ _ _ _ _ _ IA3]; rfl
    have fz : ∀ j, v3.frozen? ⟨A, j, none⟩ = false := fun j => frozen_of_row _ _ j _ 65 IA3
    refine rdS (i := 5) rfl (fun K hK => ?_)
    go_simp
    obtain ⟨X, hX⟩ : ∃ X, X = ((v3.setCell ⟨A, 0, none⟩ (.int .i64 x)).setCell ⟨A, 1, none⟩ (.slice (some ⟨P, 0, none⟩) 4 4)).setCell ⟨A, 2, none⟩ (.slice (some ⟨M, 0, none⟩) 4 4) := ⟨_, rfl⟩
    rw [← hX]
    have FX : Fr A v3 X := by rw [hX]; exact (((Fr.refl A v3).set 0 _).set 1 _).set 2 _
    have SX : SmP X A P M x [0, 0, 0, 0] [0, 0, 0, 0] := ⟨by rw [hX]; exact heap_setCell_same _ _ 2 _ 65 _ (heap_setCell_same _ _ 1 _ 65 _ (heap_setCell_same _ _ 0 _ 65 _ IA3)), (FX.2.2.2.2 P IP3.lt (Ne.symm n1)).trans IP3, (FX.2.2.2.2 M IM3.lt (Ne.symm n2)).trans IM3, ⟨n1, n2, n3⟩, rfl, rfl⟩
    have BX : Below LO V X := ⟨FX.1.trans b3.os, FX.2.1.trans b3.tape, FX.2.2.1.trans b3.output, Nat.le_trans b3.size FX.2.2.2.1, fun k hk => (FX.2.2.2.2 k (by have := b3.size; omega) (by omega)).trans (b3.block k hk)⟩
    clear hX
    refine hK.out _ _ trivial (fun _ => ?_)
    try simp only [Act.put, List.getElem_toArray, List.getElem_cons_zero, List.getElem_cons_succ, List.setIfInBounds_toArray, List.set_cons_zero, List.set_cons_succ]
    clear hK K
    refine wpAnyH_done (by kernel_rfl) ?_ _
    go_wp2_with fail
    go_meet
    case rel => exact ⟨A, P, M, rfl, hideP ⟨SX, z1, BX⟩⟩
  ·rw [if_pos (by first | rfl | go_simp)]
   go_simp
   obtain ⟨A, hA⟩ : ∃ X, X = v0.heap.size := ⟨_, rfl⟩
   obtain ⟨v1, hv1⟩ : ∃ X, X = v0.alloc (.cells #[.int .i64 0, .slice none 0 0, .slice none 0 0] 65) := ⟨_, rfl⟩
   rw [← hv1, ← hA]
   have c1 : Below v0.heap.size v0 v1 := by rw [hv1]; exact below1 _ _
   have b1 : Below LO V v1 := below_more b0 c1 (by have := b0.size; omega)
   have IA1 : v1.heap[A]? = some (.cells #[.int .i64 0, .slice none 0 0, .slice none 0 0] 65 (0, 0)) := by rw [hv1, hA]; exact heap_alloc_new _ _
   have HA := hideP hA
   have lA : A < v1.heap.size := by rw [hv1, hA]; simp
   clear hv1 hA
   refine hK.out _ _ trivial (fun _ => ?_)
   try simp only [Act.put, List.getElem_toArray, List.getElem_cons_zero, List.getElem_cons_succ, List.setIfInBounds_toArray, List.set_cons_zero, List.set_cons_succ]
   clear hK K
   refine wpAnyH_ready (rs := [1, 2]) (by kernel_rfl) (by simp) ?_
   refine AllReadyH.cons rfl (fun K hK => ?_) (AllReadyH.cons rfl (fun K hK => ?_) AllReadyH.nil)
   ·rw [if_pos (by first | rfl | go_simp)]
    refine wp_make_at _ _ 27 rfl LO 2 i0 (.int .i64 0) 1 Tryz.underlying27 hi0 hz0 hz1 .i64 .i64 4 4 4 rfl rfl rfl rfl (by rw [show i0.bytes = 8 from hz2]; omega) (by unfold maxLen; omega) (by have := b1.size; omega) ?_
    intro v2 ho hg
    obtain ⟨P, hP⟩ : ∃ X, X = v1.heap.size := ⟨_, rfl⟩
    rw [← hP] at ho ⊢
    have HP := hideP hP
    clear hP
    have c2 : Below v1.heap.size v1 v2 := Below.grown (Below.refl _ _) hg (Nat.le_refl _) (by simp)
    have b2 : Below LO V v2 := below_more b1 c2 (by have := b1.size; omega)
    have IP2 : IntsL v2 P 2 [0, 0, 0, 0] := made4 ho
    have IA2 : v2.heap[A]? = some (.cells #[.int .i64 0, .slice none 0 0, .slice none 0 0] 65 (0, 0)) := (c2.block A (by first | omega | (have := c2.size; omega))).trans IA1
    have lP : P < v2.heap.size := IP2.lt
    clear ho hg
    refine hK.out _ _ trivial (fun _ => ?_)
    try simp only [Act.put, List.getElem_toArray, List.getElem_cons_zero, List.getElem_cons_succ, List.setIfInBounds_toArray, List.set_cons_zero, List.set_cons_succ]
    clear hK K
    refine rdS (i := 2) rfl (fun K hK => ?_)
    refine wp_make_at _ _ 27 rfl LO 2 i0 (.int .i64 0) 1 Tryz.underlying27 hi0 hz0 hz1 .i64 .i64 4 4 4 rfl rfl rfl rfl (by rw [show i0.bytes = 8 from hz2]; omega) (by unfold maxLen; omega) (by have := b2.size; omega) ?_
    intro v3 ho hg
    obtain ⟨M, hM⟩ : ∃ X, X = v2.heap.size := ⟨_, rfl⟩
    rw [← hM] at ho ⊢
    have HM := hideP hM
    clear hM
    have c3 : Below v2.heap.size v2 v3 := Below.grown (Below.refl _ _) hg (Nat.le_refl _) (by simp)
    have b3 : Below LO V v3 := below_more b2 c3 (by have := b2.size; omega)
    have IM3 : IntsL v3 M 2 [0, 0, 0, 0] := made4 ho
    have IA3 : v3.heap[A]? = some (.cells #[.int .i64 0, .slice none 0 0, .slice none 0 0] 65 (0, 0)) := (c3.block A (by first | omega | (have := c2.size; omega))).trans IA2
    have IP3 := IP2.below c3
    have lM : M < v3.heap.size := IM3.lt
    clear ho hg
    refine hK.out _ _ trivial (fun _ => ?_)
    try simp only [Act.put, List.getElem_toArray, List.getElem_cons_zero, List.getElem_cons_succ, List.setIfInBounds_toArray, List.set_cons_zero, List.set_cons_succ]
    clear hK K
    refine tkS (i := 3) (v := .agg #[.int .i64 x, .slice (some ⟨P, 0, none⟩) 4 4, .slice (some ⟨M, 0, none⟩) 4 4]) rfl trivial ?_
    try simp only [Act.put, List.getElem_toArray, List.getElem_cons_zero, List.getElem_cons_succ, List.setIfInBounds_toArray, List.set_cons_zero, List.set_cons_succ]
    have z1 : LO ≤ A ∧ LO ≤ P ∧ LO ≤ M := by have := HA.out; have := HP.out; have := HM.out; have := b0.size; have := b1.size; have := b2.size; omega
    have n1 : A ≠ P := by have := HA.out; have := HP.out; have := HM.out; have := c1.size; have := c2.size; have := c3.size; omega
    have n2 : A ≠ M := by have := HA.out; have := HP.out; have := HM.out; have := c1.size; have := c2.size; have := c3.size; omega
    have n3 : P ≠ M := by have := HA.out; have := HP.out; have := HM.out; have := c1.size; have := c2.size; have := c3.size; omega
    have q0 : v3.cell? ⟨A, 0, none⟩ = some (.int .i64 0) := by rw [cell_of_row _ _ _ _ _ _ IA3]; rfl
    have q1 : v3.cell? ⟨A, 1, none⟩ = some (.slice none 0 0) := by rw [cell_of_row _ _ _ _ _ _ IA3]; rfl
    have q2 : v3.cell? ⟨A, 2, none⟩ = some (.slice none 0 0) := by rw [cell_of_row _ _ _ _ _ _ IA3]; rfl
    have fz : ∀ j, v3.frozen? ⟨A, j, none⟩ = false := fun j => frozen_of_row _ _ j _ 65 IA3
    refine rdS (i := 5) rfl (fun K hK => ?_)
    go_simp
    obtain ⟨X, hX⟩ : ∃ X, X = ((v3.setCell ⟨A, 0, none⟩ (.int .i64 x)).setCell ⟨A, 1, none⟩ (.slice (some ⟨P, 0, none⟩) 4 4)).setCell ⟨A, 2, none⟩ (.slice (some ⟨M, 0, none⟩) 4 4) := ⟨_, rfl⟩
    rw [← hX]
    have FX : Fr A v3 X := by rw [hX]; exact (((Fr.refl A v3).set 0 _).set 1 _).set 2 _
    have SX : SmP X A P M x [0, 0, 0, 0] [0, 0, 0, 0] := ⟨by rw [hX]; exact heap_setCell_same _ _ 2 _ 65 _ (heap_setCell_same _ _ 1 _ 65 _ (heap_setCell_same _ _ 0 _ 65 _ IA3)), (FX.2.2.2.2 P IP3.lt (Ne.symm n1)).trans IP3, (FX.2.2.2.2 M IM3.lt (Ne.symm n2)).trans IM3, ⟨n1, n2, n3⟩, rfl, rfl⟩
    have BX : Below LO V X := ⟨FX.1.trans b3.os, FX.2.1.trans b3.tape, FX.2.2.1.trans b3.output, Nat.le_trans b3.size FX.2.2.2.1, fun k hk => (FX.2.2.2.2 k (by have := b3.size; omega) (by omega)).trans (b3.block k hk)⟩
    clear hX
    refine hK.out _ _ trivial (fun _ => ?_)
    try simp only [Act.put, List.getElem_toArray, List.getElem_cons_zero, List.getElem_cons_succ, List.setIfInBounds_toArray, List.set_cons_zero, List.set_cons_succ]
    clear hK K
    refine wpAnyH_done (by kernel_rfl) ?_ _
    go_wp2_with fail
    go_meet
    case rel => exact ⟨A, P, M, rfl, hideP ⟨SX, z1, BX⟩⟩
   ·rw [if_pos (by first | rfl | go_simp)]
    refine wp_make_at _ _ 27 rfl LO 2 i0 (.int .i64 0) 1 Tryz.underlying27 hi0 hz0 hz1 .i64 .i64 4 4 4 rfl rfl rfl rfl (by rw [show i0.bytes = 8 from hz2]; omega) (by unfold maxLen; omega) (by have := b1.size; omega) ?_
    intro v2 ho hg
    obtain ⟨M, hM⟩ : ∃ X, X = v1.heap.size := ⟨_, rfl⟩
    rw [← hM] at ho ⊢
    have HM := hideP hM
    clear hM
    have c2 : Below v1.heap.size v1 v2 := Below.grown (Below.refl _ _) hg (Nat.le_refl _) (by simp)
    have b2 : Below LO V v2 := below_more b1 c2 (by have := b1.size; omega)
    have IM2 : IntsL v2 M 2 [0, 0, 0, 0] := made4 ho
    have IA2 : v2.heap[A]? = some (.cells #[.int .i64 0, .slice none 0 0, .slice none 0 0] 65 (0, 0)) := (c2.block A (by first | omega | (have := c2.size; omega))).trans IA1
    have lM : M < v2.heap.size := IM2.lt
    clear ho hg
    refine hK.out _ _ trivial (fun _ => ?_)
    try simp only [Act.put, List.getElem_toArray, List.getElem_cons_zero, List.getElem_cons_succ, List.setIfInBounds_toArray, List.set_cons_zero, List.set_cons_succ]
    clear hK K
    refine rdS (i := 1) rfl (fun K hK => ?_)
    refine wp_make_at _ _ 27 rfl LO 2 i0 (.int .i64 0) 1 Tryz.underlying27 hi0 hz0 hz1 .i64 .i64 4 4 4 rfl rfl rfl rfl (by rw [show i0.bytes = 8 from hz2]; omega) (by unfold maxLen; omega) (by have := b2.size; omega) ?_
    intro v3 ho hg
    obtain ⟨P, hP⟩ : ∃ X, X = v2.heap.size := ⟨_, rfl⟩
    rw [← hP] at ho ⊢
    have HP := hideP hP
    clear hP
    have c3 : Below v2.heap.size v2 v3 := Below.grown (Below.refl _ _) hg (Nat.le_refl _) (by simp)
    have b3 : Below LO V v3 := below_more b2 c3 (by have := b2.size; omega)
    have IP3 : IntsL v3 P 2 [0, 0, 0, 0] := made4 ho
    have IA3 : v3.heap[A]? = some (.cells #[.int .i64 0, .slice none 0 0, .slice none 0 0] 65 (0, 0)) := (c3.block A (by first | omega | (have := c2.size; omega))).trans IA2
    have IM3 := IM2.below c3
    have lP : P < v3.heap.size := IP3.lt
    clear ho hg
    refine hK.out _ _ trivial (fun _ => ?_)
    try simp only [Act.put, List.getElem_toArray, List.getElem_cons_zero, List.getElem_cons_succ, List.setIfInBounds_toArray, List.set_cons_zero, List.set_cons_succ]
    clear hK K
    refine tkS (i := 3) (v := .agg #[.int .i64 x, .slice (some ⟨P, 0, none⟩) 4 4, .slice (some ⟨M, 0, none⟩) 4 4]) rfl trivial ?_
    try simp only [Act.put, List.getElem_toArray, List.getElem_cons_zero, List.getElem_cons_succ, List.setIfInBounds_toArray, List.set_cons_zero, List.set_cons_succ]
    have z1 : LO ≤ A ∧ LO ≤ P ∧ LO ≤ M := by have := HA.out; have := HP.out; have := HM.out; have := b0.size; have := b1.size; have := b2.size; omega
    have n1 : A ≠ P := by have := HA.out; have := HP.out; have := HM.out; have := c1.size; have := c2.size; have := c3.size; omega
    have n2 : A ≠ M := by have := HA.out; have := HP.out; have := HM.out; have := c1.size; have := c2.size; have := c3.size; omega
    have n3 : P ≠ M := by have := HA.out; have := HP.out; have := HM.out; have := c1.size; have := c2.size; have := c3.size; omega
    have q0 : v3.cell? ⟨A, 0, none⟩ = some (.int .i64 0) := by rw [cell_of_row _ _ _ _ _ _ IA3]; rfl
    have q1 : v3.cell? ⟨A, 1, none⟩ = some (.slice none 0 0) := by rw [cell_of_row _ _ _ _ _ _ IA3]; rfl
    have q2 : v3.cell? ⟨A, 2, none⟩ = some (.slice none 0 0) := by rw [cell_of_row _ _ _ _ _ _ IA3]; rfl
    have fz : ∀ j, v3.frozen? ⟨A, j, none⟩ = false := fun j => frozen_of_row _ _ j _ 65 IA3
    refine rdS (i := 5) rfl (fun K hK => ?_)
    go_simp
    obtain ⟨X, hX⟩ : ∃ X, X = ((v3.setCell ⟨A, 0, none⟩ (.int .i64 x)).setCell ⟨A, 1, none⟩ (.slice (some ⟨P, 0, none⟩) 4 4)).setCell ⟨A, 2, none⟩ (.slice (some ⟨M, 0, none⟩) 4 4) := ⟨_, rfl⟩
    rw [← hX]
    have FX : Fr A v3 X := by rw [hX]; exact (((Fr.refl A v3).set 0 _).set 1 _).set 2 _
    have SX : SmP X A P M x [0, 0, 0, 0] [0, 0, 0, 0] := ⟨by rw [hX]; exact heap_setCell_same _ _ 2 _ 65 _ (heap_setCell_same _ _ 1 _ 65 _ (heap_setCell_same _ _ 0 _ 65 _ IA3)), (FX.2.2.2.2 P IP3.lt (Ne.symm n1)).trans IP3, (FX.2.2.2.2 M IM3.lt (Ne.symm n2)).trans IM3, ⟨n1, n2, n3⟩, rfl, rfl⟩
    have BX : Below LO V X := ⟨FX.1.trans b3.os, FX.2.1.trans b3.tape, FX.2.2.1.trans b3.output, Nat.le_trans b3.size FX.2.2.2.1, fun k hk => (FX.2.2.2.2 k (by have := b3.size; omega) (by omega)).trans (b3.block k hk)⟩
    clear hX
    refine hK.out _ _ trivial (fun _ => ?_)
    try simp only [Act.put, List.getElem_toArray, List.getElem_cons_zero, List.getElem_cons_succ, List.setIfInBounds_toArray, List.set_cons_zero, List.set_cons_succ]
    clear hK K
    refine wpAnyH_done (by kernel_rfl) ?_ _
    go_wp2_with fail
    go_meet
    case rel => exact ⟨A, P, M, rfl, hideP ⟨SX, z1, BX⟩⟩
 case rest =>
  obtain ⟨A, P, M, rfl, HC⟩ := hcut
  have HR0 : Hid (∀ k, k < r → (s.gs.getD k ⟨0, 0, 0, 0, 0⟩).ok = true) := hideP (fun k hk => HGS.out _ (by rw [List.getD_eq_getElem?_getD, List.getElem?_eq_getElem (by rw [← HRG.out]; exact hk)]; exact List.getElem_mem _))
  have U2 : Hid (∀ X, Fr3 A P M wc X → X.ownsRow W0.heap.size 33 5 (.slice ua r uc) r (f5 s.gs)) := hideP (fun X hX => by
   have h1 := HC.out.2.2
   have h3 := HC.out.2.1
   rw [HLO.out] at h1 h3
   have h2 := ownG_below U1.out h1
   refine own_heap h2 (fun g e => ?_)
   have hk := (World.ownsRow.lt U1.out g e).2
   exact hX.2.2.2.2 g (Nat.lt_of_lt_of_le hk h1.size) (by omega) (by omega) (by omega))
  go_wp2_with fail
  go_loopw [8] (fun i8 wr => ∃ k : Nat, k ≤ r ∧ i8 = .int .i64 (k : Int) ∧ Hid (SmP wr A P M ((gsZ s k).getD 0 0) (Shr.pl4 (gsZ s k)) (Shr.mi4 (gsZ s k))) ∧ Hid (Fr3 A P M wc wr)) (fun i8 _ => r - (intOf i8).toNat)
  case atStart => exact ⟨0, by omega, rfl, hideP (by rw [Z0.out.1, Z0.out.2.1, Z0.out.2.2]; exact HC.out.1), hideP (Fr3.refl _ _ _ _)⟩
  case round =>
   obtain ⟨k, hk, rfl, HS, HF⟩ := hrel
   by_cases hkr : k < r
   ·have hki : (k : Int) < (r : Int) := by omega
    have hu := U2.out wr HF.out
    obtain ⟨ug, rfl, hug⟩ : ∃ ug, ua = some ⟨ug, 0, none⟩ ∧ ug < wr.heap.size := by
     rcases hu.2 with ⟨e9, h0⟩ | ⟨g', cap', cur, e9, hb9, hg9, _⟩
     ·simp only [Value.slice.injEq] at e9
      omega
     ·simp only [Value.slice.injEq] at e9
      exact ⟨g', e9.1, (Array.getElem?_eq_some_iff.1 hg9).1⟩
    obtain ⟨gl, hgl⟩ : ∃ g, g = s.gs.getD k ⟨0, 0, 0, 0, 0⟩ := ⟨_, rfl⟩
    have hgk := HR0.out k hkr
    rw [← hgl] at hgk
    have hc : ∀ j, j < 5 → wr.cell? ⟨ug, k * 5 + j, none⟩ = [Value.int .i64 gl.s, .int .i64 gl.p, .int .i64 gl.po, .int .i64 gl.m, .int .i64 gl.mo][j]? := fun j hj => by rw [hu.cellAt _ (by omega), hgl]; exact f5_at s.gs k (by rw [← HRG.out]; exact hkr) j hj
    have g0 : wr.cell? ⟨ug, k * 5, none⟩ = some (.int .i64 gl.s) := hc 0 (by omega)
    have g1 : wr.cell? ⟨ug, k * 5 + 1, none⟩ = some (.int .i64 gl.p) := hc 1 (by omega)
    have g2 : wr.cell? ⟨ug, k * 5 + 2, none⟩ = some (.int .i64 gl.po) := hc 2 (by omega)
    have g3 : wr.cell? ⟨ug, k * 5 + 3, none⟩ = some (.int .i64 gl.m) := hc 3 (by omega)
    have g4 : wr.cell? ⟨ug, k * 5 + 4, none⟩ = some (.int .i64 gl.mo) := hc 4 (by omega)
    obtain ⟨pn, mn, hpn, hmn, hp4, hm4⟩ : ∃ pn mn : Nat, gl.po = (pn : Int) ∧ gl.mo = (mn : Int) ∧ pn < 4 ∧ mn < 4 := by
     have h9 : 0 ≤ gl.po ∧ gl.po ≤ 3 ∧ 0 ≤ gl.mo ∧ gl.mo ≤ 3 := by
      simp [Shr.Gl.ok, Shr.okB, Shr.orderB] at hgk
      omega
     exact ⟨gl.po.toNat, gl.mo.toNat, by omega, by omega, by omega, by omega⟩
    have HN : Hid (gsZ s (k + 1) = glA 0 pn mn gl.s gl.p gl.m (gsZ s k)) := hideP (by rw [gsZ_succ s (by rw [← HRG.out]; exact hkr), ← hgl, hpn, hmn]; rfl)
    obtain ⟨s0, p0, po0, m0, mo0⟩ := gl
    simp only at g0 g1 g2 g3 g4 hpn hmn HN
    subst hpn hmn
    clear hc hu hgl hgk
    go_wp2_with fail
    refine (show Calls Tryz.prog 61 #[.pointer (some ⟨A, 0, none⟩), .agg #[.int .i64 s0, .int .i64 p0, .int .i64 (pn : Int), .int .i64 m0, .int .i64 (mn : Int)]] wr _ from addGlueS_any pn mn s0 p0 m0 HS.out hp4 hm4).mono ?_
    rintro e w9 ⟨⟨v9, rfl⟩, hs9, hf9⟩
    have S9 : Hid (SmP w9 A P M ((gsZ s (k + 1)).getD 0 0) (Shr.pl4 (gsZ s (k + 1))) (Shr.mi4 (gsZ s (k + 1)))) := hideP (by rw [HN.out, w_glA (gsZ_len s k) hp4 hm4, pl4_glA (gsZ_len s k) hp4 hm4, mi4_glA (gsZ_len s k) hp4 hm4]; exact hs9)
    have F9 : Hid (Fr3 A P M wc w9) := hideP (HF.out.trans hf9)
    clear hs9 hf9 g0 g1 g2 g3 g4
    go_wp2_with fail
    go_roundw
    case rel => exact ⟨k + 1, by omega, by go_num, S9, F9⟩
    case measure => simp [intOf]; omega
   ·obtain rfl : k = r := by omega
    have hki : ¬ (k : Int) < (k : Int) := by omega
    have h3 := HC.out.2.1
    have hLV : w.heap.size < LO := by rw [HLO.out]; exact hzV
    have BC : Hid (Below w.heap.size w wc) := hideP (below_more BV.out (by have := HC.out.2.2; rw [HLO.out] at this; exact this) BV.out.size)
    have BR : Hid (Below w.heap.size w wr) := hideP (BC.out.trans (HF.out.toB ⟨by omega, by omega, by omega⟩ BC.out.size))
    have ZR : Hid (wr.heap[w.heap.size]? = some (.cells #[.int .i64 0, .slice none 0 0, .slice none 0 0] 65 (0, 0))) := hideP (((HF.out.2.2.2.2 _ (Nat.lt_of_lt_of_le hzV HC.out.2.2.size) (by omega) (by omega) (by omega)).trans (HC.out.2.2.block _ hLV)).trans AV.out)
    have HSF : Hid (SmP wr A P M y (Shr.pl4 ZF) (Shr.mi4 ZF)) := hideP (by rw [HY.out, HZF.out]; exact HS.out)
    obtain ⟨a0, a1, a2⟩ := HSF.out.cells
    have fz : ∀ j, wr.frozen? ⟨w.heap.size, j, none⟩ = false := fun j => frozen_of_row _ _ j _ 65 ZR.out
    have z0 : wr.cell? ⟨w.heap.size, 0, none⟩ = some (.int .i64 0) := by rw [cell_of_row _ _ _ _ _ _ ZR.out]; rfl
    have z1 : wr.cell? ⟨w.heap.size, 1, none⟩ = some (.slice none 0 0) := by rw [cell_of_row _ _ _ _ _ _ ZR.out]; rfl
    have z2 : wr.cell? ⟨w.heap.size, 2, none⟩ = some (.slice none 0 0) := by rw [cell_of_row _ _ _ _ _ _ ZR.out]; rfl
    have nA : ¬ A = w.heap.size := by omega
    have nP : P ≠ w.heap.size := by omega
    have nM : M ≠ w.heap.size := by omega
    go_wp2_with fail
    obtain ⟨X, hX⟩ : ∃ X, X = ((wr.setCell ⟨w.heap.size, 0, none⟩ (.int .i64 y)).setCell ⟨w.heap.size, 1, none⟩ (.slice (some ⟨P, 0, none⟩) 4 4)).setCell ⟨w.heap.size, 2, none⟩ (.slice (some ⟨M, 0, none⟩) 4 4) := ⟨_, rfl⟩
    rw [← hX]
    have FX : Fr w.heap.size wr X := by rw [hX]; exact (((Fr.refl w.heap.size wr).set 0 _).set 1 _).set 2 _
    have RX : X.heap[w.heap.size]? = some (.cells #[.int .i64 y, .slice (some ⟨P, 0, none⟩) 4 4, .slice (some ⟨M, 0, none⟩) 4 4] 65 (0, 0)) := by rw [hX]; exact heap_setCell_same _ _ 2 _ 65 _ (heap_setCell_same _ _ 1 _ 65 _ (heap_setCell_same _ _ 0 _ 65 _ ZR.out))
    have BX : Below w.heap.size w X := ⟨FX.1.trans BR.out.os, FX.2.1.trans BR.out.tape, FX.2.2.1.trans BR.out.output, Nat.le_trans BR.out.size FX.2.2.2.1, fun k hk => (FX.2.2.2.2 k (Nat.lt_of_lt_of_le hk BR.out.size) (by omega)).trans (BR.out.block k hk)⟩
    clear hX
    exact bodyPost_ret (v := .agg #[.int .i64 y, .slice (some ⟨P, 0, none⟩) 4 4, .slice (some ⟨M, 0, none⟩) 4 4]) (results_cell_row rfl _ _ w.heap.size 65 _ (0, 0) _ rfl RX Tryz.underlying65 rfl (by kernel_rfl)) rfl ⟨⟨P, M, rfl, (FX.2.2.2.2 P HSF.out.hP.lt nP).trans HSF.out.hP, (FX.2.2.2.2 M HSF.out.hM.lt nM).trans HSF.out.hM⟩, BX⟩
end Go.Proofs.YtlohbaoigfaneaaGreat
