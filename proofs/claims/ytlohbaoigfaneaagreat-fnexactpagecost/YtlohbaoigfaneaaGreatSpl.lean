import Derived.Test.YtlohbaoigfaneaaGreatSpo
import Derived.Test.YtlohbaoigfaneaaGreatSts
import Derived.Maps.AppendAt
import Derived.OwnWalk
namespace Go.Proofs.YtlohbaoigfaneaaGreat
open Go.RowKit
set_option linter.unusedVariables false
set_option linter.unusedSimpArgs false
theorem Tryz.info3b : (Tryz.prog.info? 3).map (fun i => (i.zero, i.size, i.bytes)) = some (some (.int .i64 0), 1, 8) := by kernel_rfl
def sliceLenB : Value → Nat
 | .slice _ n _ => n
 | _ => 0
set_option maxRecDepth 20000 in
set_option maxHeartbeats 16000000 in
theorem nest_any {v : Value} {xs : List Nd} {w : World} (h : NRow 0 w v xs) (hbig : xs.length ≤ 20000) :
 Calls Tryz.prog 100 #[v] w fun e w' => ∃ m : Int, e = .returned (.int .i64 m) ∧ (decide (0 ≤ m) && decide (m ≤ 41)) = okFrom xs.length 0 [] xs ∧ Below w.heap.size w w' := by
 obtain ⟨ao, n, cap, rfl, hl, hr⟩ := h
 subst hl
 obtain ⟨n, hn⟩ : ∃ n, n = xs.length := ⟨_, rfl⟩
 rw [← hn] at hr hbig
 rw [← hn]
 have hni : ¬ (20000 : Int) < (n : Int) := by omega
 have HN := hideP hn
 have HR : Hid (0 < n → ∃ b off, ao = some ⟨b, off, none⟩ ∧ 0 ≤ b ∧ b < w.heap.size ∧ ∀ i, i < n → ∃ cs : List Value, cs.length = 15 ∧ NdR 0 w cs (xs.getD i Nd.none) ∧ ∀ j, j < 15 → w.cell? ⟨b, off + i * 15 + j, none⟩ = cs[j]?) := hr
 have HSt : Hid (LeftS xs 0 [] 0) := hideP (LeftS.start xs)
 clear hr hn
 go_enter Tryz.func100, Tryz.ntmps100
 go_wp2
 go_loopw [3, 4, 5] (fun s ms i wr => ∃ (k : Nat) (T : List Int) (g r c : Nat) (m : Int), k ≤ n ∧ i = .int .i64 k ∧ s = .slice (some ⟨g, 0, none⟩) r c ∧ ms = .int .i64 m ∧ T.length = r ∧ IR wr w.heap.size (.slice (some ⟨g, 0, none⟩) r c) r T.reverse ∧ Below w.heap.size w wr ∧ Hid (LeftS xs k T m)) (fun _ _ i _ => n - (intOf i).toNat)
 case atStart =>
  exact ⟨0, [], w.heap.size, 0, 0, 0, by omega, rfl, rfl, rfl, rfl, ⟨rfl, .inr ⟨_, _, _, rfl, Nat.le_refl _, heap_alloc_new w _, by omega, by decide, rfl, rfl⟩⟩, below1 _ _, HSt⟩
 case round =>
  obtain ⟨k, T, g, r, c, m, hk, rfl, rfl, rfl, hT, hI, hbel, HLf⟩ := hrel
  by_cases hkn : k < n
  ·have hki : (k : Int) < (n : Int) := by omega
   obtain ⟨b, off, rfl, hlo, hb, hc⟩ := HR (by omega)
   obtain ⟨cs, hcl, hRel, hcj⟩ := hc k hkn
   obtain ⟨t, ht⟩ : ∃ t, t = xs.getD k Nd.none := ⟨_, rfl⟩
   rw [← ht] at hRel
   have HT := hideP ht
   obtain ⟨sb, hsb⟩ : ∃ sb, sb = specB t := ⟨_, rfl⟩
   have HSB := hideP hsb
   obtain ⟨db, hdb⟩ : ∃ db, db = deepB t := ⟨_, rfl⟩
   have HDB := hideP hdb
   have TC : Hid (∀ W : World, Calls Tryz.prog 121 #[ndV t] W fun r w' => r = .returned (.bool sb) ∧ Below W.heap.size W w') := hideP (fun W => by rw [hsb]; exact nodeOk_any t W)
   have DC : Hid (∀ W : World, Calls Tryz.prog 122 #[ndV t] W fun r w' => r = .returned (.bool db) ∧ Below W.heap.size W w') := hideP (fun W => by rw [hdb]; exact deep_any t W)
   have hrk : r ≤ k := by have := HLf.out.len; omega
   have hm0 : 0 ≤ m := HLf.out.pos
   have hm1 : m ≤ k + 1 := HLf.out.small
   clear hsb hdb
   obtain ⟨kd, wd, hh, dp, sh, fo, ch, nn, gs, gp, gpo, gm, gmo, tx, kids⟩ := t
   rw [show cs = _ from hRel] at hcj
   simp only [Nd.cells] at hcj
   have HB : Hid (Below w.heap.size w wr) := hbel
   have HI := hideP hI
   have HTr := hideP hT
   have HKL : Hid (k < xs.length) := hideP (by rw [← HN.out]; exact hkn)
   have BOUT : Hid (∀ x, Below wr.heap.size wr x → Below w.heap.size w x) := hideP (fun x hx => below_more HB.out hx HB.out.size)
   have g0 : wr.cell? ⟨b, off + k * 15, none⟩ = some (.int .i64 kd) := (HB.out.cell (p := ⟨b, off + k * 15, none⟩) hb).trans (hcj 0 (by omega))
   have g1 : wr.cell? ⟨b, off + k * 15 + 1, none⟩ = some (.int .i64 wd) := (HB.out.cell (p := ⟨b, off + k * 15 + 1, none⟩) hb).trans (hcj 1 (by omega))
   have g2 : wr.cell? ⟨b, off + k * 15 + 2, none⟩ = some (.int .i64 hh) := (HB.out.cell (p := ⟨b, off + k * 15 + 2, none⟩) hb).trans (hcj 2 (by omega))
   have g3 : wr.cell? ⟨b, off + k * 15 + 3, none⟩ = some (.int .i64 dp) := (HB.out.cell (p := ⟨b, off + k * 15 + 3, none⟩) hb).trans (hcj 3 (by omega))
   have g4 : wr.cell? ⟨b, off + k * 15 + 4, none⟩ = some (.int .i64 sh) := (HB.out.cell (p := ⟨b, off + k * 15 + 4, none⟩) hb).trans (hcj 4 (by omega))
   have g5 : wr.cell? ⟨b, off + k * 15 + 5, none⟩ = some (.int .i64 fo) := (HB.out.cell (p := ⟨b, off + k * 15 + 5, none⟩) hb).trans (hcj 5 (by omega))
   have g6 : wr.cell? ⟨b, off + k * 15 + 6, none⟩ = some (.int .i64 ch) := (HB.out.cell (p := ⟨b, off + k * 15 + 6, none⟩) hb).trans (hcj 6 (by omega))
   have g7 : wr.cell? ⟨b, off + k * 15 + 7, none⟩ = some (.int .i64 nn) := (HB.out.cell (p := ⟨b, off + k * 15 + 7, none⟩) hb).trans (hcj 7 (by omega))
   have g8 : wr.cell? ⟨b, off + k * 15 + 8, none⟩ = some (.int .i64 gs) := (HB.out.cell (p := ⟨b, off + k * 15 + 8, none⟩) hb).trans (hcj 8 (by omega))
   have g9 : wr.cell? ⟨b, off + k * 15 + 9, none⟩ = some (.int .i64 gp) := (HB.out.cell (p := ⟨b, off + k * 15 + 9, none⟩) hb).trans (hcj 9 (by omega))
   have g10 : wr.cell? ⟨b, off + k * 15 + 10, none⟩ = some (.int .i64 gpo) := (HB.out.cell (p := ⟨b, off + k * 15 + 10, none⟩) hb).trans (hcj 10 (by omega))
   have g11 : wr.cell? ⟨b, off + k * 15 + 11, none⟩ = some (.int .i64 gm) := (HB.out.cell (p := ⟨b, off + k * 15 + 11, none⟩) hb).trans (hcj 11 (by omega))
   have g12 : wr.cell? ⟨b, off + k * 15 + 12, none⟩ = some (.int .i64 gmo) := (HB.out.cell (p := ⟨b, off + k * 15 + 12, none⟩) hb).trans (hcj 12 (by omega))
   have g13 : wr.cell? ⟨b, off + k * 15 + 13, none⟩ = some (.string tx) := (HB.out.cell (p := ⟨b, off + k * 15 + 13, none⟩) hb).trans (hcj 13 (by omega))
   have g14 : wr.cell? ⟨b, off + k * 15 + 14, none⟩ = some (.int .i64 kids) := (HB.out.cell (p := ⟨b, off + k * 15 + 14, none⟩) hb).trans (hcj 14 (by omega))
   clear hc hcj hcl hbel ht hRel hI hT
   obtain ⟨w0, hw0⟩ : ∃ x, x = wr := ⟨wr, rfl⟩
   have HG : Hid (w0 = wr) := hideP hw0
   have GS : Hid (∀ x, x = w0 → x.cell? ⟨b, off + k * 15, none⟩ = some (.int .i64 kd) ∧ x.cell? ⟨b, off + k * 15 + 1, none⟩ = some (.int .i64 wd) ∧ x.cell? ⟨b, off + k * 15 + 2, none⟩ = some (.int .i64 hh) ∧ x.cell? ⟨b, off + k * 15 + 3, none⟩ = some (.int .i64 dp) ∧ x.cell? ⟨b, off + k * 15 + 4, none⟩ = some (.int .i64 sh) ∧ x.cell? ⟨b, off + k * 15 + 5, none⟩ = some (.int .i64 fo) ∧ x.cell? ⟨b, off + k * 15 + 6, none⟩ = some (.int .i64 ch) ∧ x.cell? ⟨b, off + k * 15 + 7, none⟩ = some (.int .i64 nn) ∧ x.cell? ⟨b, off + k * 15 + 8, none⟩ = some (.int .i64 gs) ∧ x.cell? ⟨b, off + k * 15 + 9, none⟩ = some (.int .i64 gp) ∧ x.cell? ⟨b, off + k * 15 + 10, none⟩ = some (.int .i64 gpo) ∧ x.cell? ⟨b, off + k * 15 + 11, none⟩ = some (.int .i64 gm) ∧ x.cell? ⟨b, off + k * 15 + 12, none⟩ = some (.int .i64 gmo) ∧ x.cell? ⟨b, off + k * 15 + 13, none⟩ = some (.string tx) ∧ x.cell? ⟨b, off + k * 15 + 14, none⟩ = some (.int .i64 kids)) := hideP (fun x hx => by rw [hx, hw0]; exact ⟨g0, g1, g2, g3, g4, g5, g6, g7, g8, g9, g10, g11, g12, g13, g14⟩)
   have XS : Hid (∀ x, x = w0 → (Hid (∀ y, Below x.heap.size x y → Below w.heap.size w y)) ∧ Hid (Below w.heap.size w x)) := hideP (fun x hx => by rw [hx, hw0]; exact ⟨BOUT, HB⟩)
   have HI0 : Hid (IR w0 w.heap.size (.slice (some ⟨g, 0, none⟩) r c) r T.reverse) := hideP (by rw [hw0]; exact HI.out)
   clear g0 g1 g2 g3 g4 g5 g6 g7 g8 g9 g10 g11 g12 g13 g14 BOUT HB HI
   have hlast := hideP hw0.symm
   clear hw0 HG
   go_wp2
   go_loopw [3] (fun s wq => ∃ (U : List Int) (q : Nat), s = .slice (some ⟨g, 0, none⟩) q c ∧ U.length = q ∧ IR w0 w.heap.size (.slice (some ⟨g, 0, none⟩) q c) q U.reverse ∧ q ≤ r ∧ wq = w0 ∧ U.dropWhile (· == (k : Int)) = T.dropWhile (· == (k : Int))) (fun s _ => sliceLenB s)
   case atStart => exact ⟨T, r, rfl, HTr.out, HI0.out, Nat.le_refl _, hlast.out, rfl⟩
   case round =>
    obtain ⟨U, q, rfl, hU, hIU, hq, hwq, hd⟩ := hrel
    clear hlast
    obtain ⟨BOUT, HB⟩ := XS.out _ hwq
    obtain ⟨g0, g1, g2, g3, g4, g5, g6, g7, g8, g9, g10, g11, g12, g13, g14⟩ := GS.out _ hwq
    have hIU' : IR wr w.heap.size (.slice (some ⟨g, 0, none⟩) q c) q U.reverse := by rw [hwq]; exact hIU
    have HWQ := hideP hwq
    clear hIU hwq GS XS HI0
    cases U with
    | nil =>
     obtain rfl : q = 0 := by simpa using hU.symm
     have HPOP : Hid (([] : List Int) = T.dropWhile (· == (k : Int))) := hideP hd
     have hz12 := HLf.out.top HKL.out
     rw [← HPOP.out, ← HN.out] at hz12
     obtain ⟨z, hz⟩ : ∃ z : Int, z = (n : Int) := ⟨_, rfl⟩
     have HZ : Hid (z = ([] : List Int).headD (n : Int)) := hideP hz
     have hz1 : (k : Int) + 1 ≤ z := by rw [hz]; omega
     have hz2 : z ≤ (n : Int) := by rw [hz]; omega
     have HU : Hid (([] : List Int).length = 0) := hideP rfl
     have HIU := hideP hIU'
     have hq0 : ¬ (0 : Int) < ((0 : Nat) : Int) := by omega
     clear hU hd hIU' hz12
     subst hz
     go_wp2_with fail
     refine (TC.out _).mono ?_
     rintro e w1 ⟨rfl, hb1⟩
     have B1 : Hid (Below wr.heap.size wr w1) := hideP (below_more (below1 _ _) hb1 (by simp))
     have Q1 : Hid (∀ x, Below w1.heap.size w1 x → x.cell? ⟨wr.heap.size, 0, none⟩ = some (.int .i64 kd) ∧ x.cell? ⟨wr.heap.size, 1, none⟩ = some (.int .i64 wd) ∧ x.cell? ⟨wr.heap.size, 2, none⟩ = some (.int .i64 hh) ∧ x.cell? ⟨wr.heap.size, 3, none⟩ = some (.int .i64 dp) ∧ x.cell? ⟨wr.heap.size, 4, none⟩ = some (.int .i64 sh) ∧ x.cell? ⟨wr.heap.size, 5, none⟩ = some (.int .i64 fo) ∧ x.cell? ⟨wr.heap.size, 6, none⟩ = some (.int .i64 ch) ∧ x.cell? ⟨wr.heap.size, 7, none⟩ = some (.int .i64 nn) ∧ x.cell? ⟨wr.heap.size, 8, none⟩ = some (.int .i64 gs) ∧ x.cell? ⟨wr.heap.size, 9, none⟩ = some (.int .i64 gp) ∧ x.cell? ⟨wr.heap.size, 10, none⟩ = some (.int .i64 gpo) ∧ x.cell? ⟨wr.heap.size, 11, none⟩ = some (.int .i64 gm) ∧ x.cell? ⟨wr.heap.size, 12, none⟩ = some (.int .i64 gmo) ∧ x.cell? ⟨wr.heap.size, 13, none⟩ = some (.string tx) ∧ x.cell? ⟨wr.heap.size, 14, none⟩ = some (.int .i64 kids)) := hideP (fun x hx => by have hb2 := below_more (Below.refl _ _) hb1 (Nat.le_refl _); have hlt : wr.heap.size < w1.heap.size := (by have := hb1.size; simp at this; omega); exact ⟨(Below.cell hx (p := ⟨wr.heap.size, 0, none⟩) hlt).trans ((Below.cell hb1 (p := ⟨wr.heap.size, 0, none⟩) (by simp)).trans (by simp [go_sem])), (Below.cell hx (p := ⟨wr.heap.size, 1, none⟩) hlt).trans ((Below.cell hb1 (p := ⟨wr.heap.size, 1, none⟩) (by simp)).trans (by simp [go_sem])), (Below.cell hx (p := ⟨wr.heap.size, 2, none⟩) hlt).trans ((Below.cell hb1 (p := ⟨wr.heap.size, 2, none⟩) (by simp)).trans (by simp [go_sem])), (Below.cell hx (p := ⟨wr.heap.size, 3, none⟩) hlt).trans ((Below.cell hb1 (p := ⟨wr.heap.size, 3, none⟩) (by simp)).trans (by simp [go_sem])), (Below.cell hx (p := ⟨wr.heap.size, 4, none⟩) hlt).trans ((Below.cell hb1 (p := ⟨wr.heap.size, 4, none⟩) (by simp)).trans (by simp [go_sem])), (Below.cell hx (p := ⟨wr.heap.size, 5, none⟩) hlt).trans ((Below.cell hb1 (p := ⟨wr.heap.size, 5, none⟩) (by simp)).trans (by simp [go_sem])), (Below.cell hx (p := ⟨wr.heap.size, 6, none⟩) hlt).trans ((Below.cell hb1 (p := ⟨wr.heap.size, 6, none⟩) (by simp)).trans (by simp [go_sem])), (Below.cell hx (p := ⟨wr.heap.size, 7, none⟩) hlt).trans ((Below.cell hb1 (p := ⟨wr.heap.size, 7, none⟩) (by simp)).trans (by simp [go_sem])), (Below.cell hx (p := ⟨wr.heap.size, 8, none⟩) hlt).trans ((Below.cell hb1 (p := ⟨wr.heap.size, 8, none⟩) (by simp)).trans (by simp [go_sem])), (Below.cell hx (p := ⟨wr.heap.size, 9, none⟩) hlt).trans ((Below.cell hb1 (p := ⟨wr.heap.size, 9, none⟩) (by simp)).trans (by simp [go_sem])), (Below.cell hx (p := ⟨wr.heap.size, 10, none⟩) hlt).trans ((Below.cell hb1 (p := ⟨wr.heap.size, 10, none⟩) (by simp)).trans (by simp [go_sem])), (Below.cell hx (p := ⟨wr.heap.size, 11, none⟩) hlt).trans ((Below.cell hb1 (p := ⟨wr.heap.size, 11, none⟩) (by simp)).trans (by simp [go_sem])), (Below.cell hx (p := ⟨wr.heap.size, 12, none⟩) hlt).trans ((Below.cell hb1 (p := ⟨wr.heap.size, 12, none⟩) (by simp)).trans (by simp [go_sem])), (Below.cell hx (p := ⟨wr.heap.size, 13, none⟩) hlt).trans ((Below.cell hb1 (p := ⟨wr.heap.size, 13, none⟩) (by simp)).trans (by simp [go_sem])), (Below.cell hx (p := ⟨wr.heap.size, 14, none⟩) hlt).trans ((Below.cell hb1 (p := ⟨wr.heap.size, 14, none⟩) (by simp)).trans (by simp [go_sem]))⟩)
     clear hb1 g0 g1 g2 g3 g4 g5 g6 g7 g8 g9 g10 g11 g12 g13 g14
     obtain ⟨n0, n1, n2, n3, n4, n5, n6, n7, n8, n9, n10, n11, n12, n13, n14⟩ := Q1.out w1 (Below.refl _ _)
     cases sb with
     | false =>
      have HBAD : Hid (okFrom n 0 [] xs = false) := hideP (by have h := HLf.out.bad HKL.out (by rw [← HT.out]; unfold goodB; rw [← HSB.out]; rfl); rw [← HN.out] at h; exact h)
      go_wp2
      go_ret
      exact ⟨_, rfl, HBAD.out.symm, BOUT.out _ B1.out⟩
     | true =>
      by_cases hk0 : kids < 0
      ·have hd0 : decide (kids < 0) = true := decide_eq_true hk0
       have HBAD : Hid (okFrom n 0 [] xs = false) := hideP (by have h := HLf.out.bad HKL.out (by rw [← HT.out]; unfold goodB; dsimp only; rw [decide_eq_false (by omega)]; simp); rw [← HN.out] at h; exact h)
       go_wp2
       go_ret
       exact ⟨_, rfl, HBAD.out.symm, BOUT.out _ B1.out⟩
      ·by_cases hover : (n : Int) - (k : Int) - 1 < kids
       ·have hd0 : decide (kids < 0) = false := decide_eq_false hk0
        have hd1 : decide ((n : Int) - (k : Int) - 1 < kids) = true := decide_eq_true hover
        have HBAD : Hid (okFrom n 0 [] xs = false) := hideP (by have h := HLf.out.over HKL.out (by rw [← HPOP.out, ← HN.out, ← HZ.out, ← HT.out]; dsimp only; omega); rw [← HN.out] at h; exact h)
        go_wp2
        go_ret
        exact ⟨_, rfl, HBAD.out.symm, BOUT.out _ B1.out⟩
       ·have hd0 : decide (kids < 0) = false := decide_eq_false hk0
        have hd1 : decide ((n : Int) - (k : Int) - 1 < kids) = false := decide_eq_false hover
        have HGT : Hid (goodB (xs.getD k Nd.none) = true) := hideP (by rw [← HT.out]; unfold goodB; dsimp only; rw [← HSB.out, decide_eq_true (by omega)]; rfl)
        have HLE : Hid ((xs.getD k Nd.none).kids ≤ (T.dropWhile (· == (k : Int))).headD xs.length - k - 1) := hideP (by rw [← HPOP.out, ← HN.out, ← HZ.out, ← HT.out]; dsimp only; omega)
        have hkl : 0 ≤ kids := by omega
        have hkz : kids ≤ (n : Int) - (k : Int) - 1 := by omega
        clear hk0 hover
        go_wp2_with fail
        refine (DC.out _).mono ?_
        rintro e w2 ⟨rfl, hb2⟩
        have B2 : Hid (Below wr.heap.size wr w2) := hideP (below_more B1.out hb2 B1.out.size)
        have HI2 : Hid (IR w2 w.heap.size (.slice (some ⟨g, 0, none⟩) 0 c) 0 ([] : List Int).reverse) := hideP (HIU.out.below B2.out)
        obtain ⟨m0, m1, m2, m3, m4, m5, m6, m7, m8, m9, m10, m11, m12, m13, m14⟩ := Q1.out w2 hb2
        clear hb2 n0 n1 n2 n3 n4 n5 n6 n7 n8 n9 n10 n11 n12 n13 n14 Q1 B1
        cases db with
        | false =>
         have HFL : Hid (LeftS xs (k + 1) ([] : List Int) m) := hideP (by rw [HPOP.out]; exact HLf.out.flat HKL.out HGT.out (by rw [← HT.out]; exact HDB.out.symm))
         go_wp2
         go_roundw
         case rel => exact ⟨k + 1, ([] : List Int), g, 0, c, m, by omega, by go_num, rfl, rfl, HU.out, HI2.out, BOUT.out _ B2.out, HFL⟩
         case measure => simp [intOf]; omega
        | true =>
         have HDL : Hid (LeftS xs (k + 1) (((k : Int) + 1 + kids) :: ([] : List Int)) (mostOf m 0)) := hideP (by
          have h := HLf.out.deep HKL.out HGT.out (by rw [← HT.out]; exact HDB.out.symm) HLE.out
          rw [← HPOP.out, HU.out, ← HT.out] at h
          exact h)
         by_cases hmost : m < (0 : Int) + 1
         ·have hd3 : decide (m < (0 : Int) + 1) = true := decide_eq_true hmost
          have HMV : Hid (mostOf m 0 = ((0 : Int) + 1)) := hideP (by unfold mostOf; split <;> omega)
          by_cases hkp : 0 < kids
          ·have hd2 : decide (0 < kids) = true := decide_eq_true hkp
           obtain ⟨i0, hi, hy0, hy1, hy2⟩ := info_parts Tryz.info3b
           have hw2 : w.heap.size ≤ w2.heap.size := (BOUT.out _ B2.out).size
           go_wp2_with (at_builtin; refine wpList_append_own_at _ rfl _ _ 182 rfl w.heap.size 3 i0 (.int .i64 0) 1 8 Tryz.underlying182 hi hy0 hy1 hy2 rfl (by decide) _ _ _ rfl (HI2.out.alloc _) ⟨w2.heap.size, 0, none⟩ 1 1 [.int .i64 ((k : Int) + 1 + kids)] rfl rfl (cell_one_new _ _ _) (by intro u hu; simp at hu; subst hu; rfl) (by unfold maxLen; omega) (by omega) (by simp; omega) ?_; intro v6 w6 hown6 hgrow6 hnil6 hlies6)
           have hg6 : (w2.alloc (.cells #[.int .i64 ((k : Int) + 1 + kids)] 3)).grownBy w6 (some g) := hgrow6
           have hI6 : IR w6 w.heap.size v6 (0 + 1) (((k : Int) + 1 + kids) :: ([] : List Int)).reverse := by
            rw [List.reverse_cons]
            show w6.ownsRow w.heap.size 3 1 v6 (0 + 1) ((([] : List Int).reverse ++ [(k : Int) + 1 + kids]).map (Value.int .i64))
            rw [List.map_append]
            exact hown6
           have hB6 : Below w.heap.size w w6 := Below.grown ((BOUT.out _ B2.out).alloc (BOUT.out _ B2.out).size _) hg6 (by have := (BOUT.out _ B2.out).size; simp; omega) (by intro j hj; simp at hj; subst hj; exact (stk_cap HI2.out).2.2.1)
           clear hown6 hgrow6 hnil6 hlies6 hg6
           go_roundw
           case rel =>
            obtain ⟨g6, c6, rfl⟩ : ∃ g c, v6 = .slice (some ⟨g, 0, none⟩) (0 + 1) c := by
             rcases hI6.2 with ⟨_, h⟩ | ⟨g, c, cur, h, _⟩
             ·omega
             ·exact ⟨g, c, h⟩
            exact ⟨k + 1, ((k : Int) + 1 + kids) :: ([] : List Int), g6, 0 + 1, c6, ((0 : Int) + 1), by omega, by go_num, rfl, rfl, by simp [HU.out], hI6, hB6, hideP (by rw [← HMV.out]; exact HDL.out)⟩
           case measure => simp [intOf]; omega
          ·have hd2 : decide (0 < kids) = false := decide_eq_false hkp
           go_wp2
           go_roundw
           case rel => exact ⟨k + 1, ([] : List Int), g, 0, c, ((0 : Int) + 1), by omega, by go_num, rfl, rfl, HU.out, HI2.out, BOUT.out _ B2.out, hideP (by have h := HDL.out; rw [show kids = 0 by omega, HMV.out, Int.add_zero] at h; exact h.empty)⟩
           case measure => simp [intOf]; omega
         ·have hd3 : decide (m < (0 : Int) + 1) = false := decide_eq_false hmost
          have HMV : Hid (mostOf m 0 = m) := hideP (by unfold mostOf; split <;> omega)
          by_cases hkp : 0 < kids
          ·have hd2 : decide (0 < kids) = true := decide_eq_true hkp
           obtain ⟨i0, hi, hy0, hy1, hy2⟩ := info_parts Tryz.info3b
           have hw2 : w.heap.size ≤ w2.heap.size := (BOUT.out _ B2.out).size
           go_wp2_with (at_builtin; refine wpList_append_own_at _ rfl _ _ 182 rfl w.heap.size 3 i0 (.int .i64 0) 1 8 Tryz.underlying182 hi hy0 hy1 hy2 rfl (by decide) _ _ _ rfl (HI2.out.alloc _) ⟨w2.heap.size, 0, none⟩ 1 1 [.int .i64 ((k : Int) + 1 + kids)] rfl rfl (cell_one_new _ _ _) (by intro u hu; simp at hu; subst hu; rfl) (by unfold maxLen; omega) (by omega) (by simp; omega) ?_; intro v6 w6 hown6 hgrow6 hnil6 hlies6)
           have hg6 : (w2.alloc (.cells #[.int .i64 ((k : Int) + 1 + kids)] 3)).grownBy w6 (some g) := hgrow6
           have hI6 : IR w6 w.heap.size v6 (0 + 1) (((k : Int) + 1 + kids) :: ([] : List Int)).reverse := by
            rw [List.reverse_cons]
            show w6.ownsRow w.heap.size 3 1 v6 (0 + 1) ((([] : List Int).reverse ++ [(k : Int) + 1 + kids]).map (Value.int .i64))
            rw [List.map_append]
            exact hown6
           have hB6 : Below w.heap.size w w6 := Below.grown ((BOUT.out _ B2.out).alloc (BOUT.out _ B2.out).size _) hg6 (by have := (BOUT.out _ B2.out).size; simp; omega) (by intro j hj; simp at hj; subst hj; exact (stk_cap HI2.out).2.2.1)
           clear hown6 hgrow6 hnil6 hlies6 hg6
           go_roundw
           case rel =>
            obtain ⟨g6, c6, rfl⟩ : ∃ g c, v6 = .slice (some ⟨g, 0, none⟩) (0 + 1) c := by
             rcases hI6.2 with ⟨_, h⟩ | ⟨g, c, cur, h, _⟩
             ·omega
             ·exact ⟨g, c, h⟩
            exact ⟨k + 1, ((k : Int) + 1 + kids) :: ([] : List Int), g6, 0 + 1, c6, m, by omega, by go_num, rfl, rfl, by simp [HU.out], hI6, hB6, hideP (by rw [← HMV.out]; exact HDL.out)⟩
           case measure => simp [intOf]; omega
          ·have hd2 : decide (0 < kids) = false := decide_eq_false hkp
           go_wp2
           go_roundw
           case rel => exact ⟨k + 1, ([] : List Int), g, 0, c, m, by omega, by go_num, rfl, rfl, HU.out, HI2.out, BOUT.out _ B2.out, hideP (by have h := HDL.out; rw [show kids = 0 by omega, HMV.out, Int.add_zero] at h; exact h.empty)⟩
           case measure => simp [intOf]; omega
    | cons a U =>
     obtain ⟨q, rfl⟩ : ∃ p, q = p + 1 := ⟨U.length, by simpa using hU.symm⟩
     have hU2 : U.length = q := by simpa using hU
     have hcell := rev_top hIU' hU2
     have HIU := hideP hIU'
     have HD := hideP hd
     have HU2 := hideP hU2
     have hcap : q ≤ c := by have := (stk_cap hIU').1; omega
     have hglt : g < wr.heap.size := (stk_cap hIU').2.2.2
     have hq1 : ((q + 1 : Nat) : Int) - 1 = (q : Int) := by omega
     have hqp : (0 : Int) < ((q + 1 : Nat) : Int) := by omega
     clear hd hIU' hU hU2
     by_cases htop : a = (k : Int)
     ·subst htop
      go_wp2
      go_roundw
      case rel =>
       refine ⟨U, q, rfl, HU2.out, ?_, by omega, HWQ.out, ?_⟩
       ·have h := rev_pop HIU.out HU2.out
        rw [HWQ.out] at h
        exact h
       ·rw [← HD.out]
        simp
      case measure => simp [sliceLenB]
     ·have hze : (a == (k : Int)) = false := by simpa using htop
      have HPOP : Hid (a :: U = T.dropWhile (· == (k : Int))) := hideP (popped (n := n) HD.out (by simpa using htop))
      have hz12 := HLf.out.top HKL.out
      rw [← HPOP.out, ← HN.out] at hz12
      have hz1 : (k : Int) + 1 ≤ a := by simpa using hz12.1
      have hz2 : a ≤ (n : Int) := by simpa using hz12.2
      have HZ : Hid (a = (a :: U).headD (n : Int)) := hideP rfl
      have HU : Hid ((a :: U).length = q + 1) := hideP (by simp [HU2.out])
      clear hz12
      go_wp2_with fail
      refine (TC.out _).mono ?_
      rintro e w1 ⟨rfl, hb1⟩
      have B1 : Hid (Below wr.heap.size wr w1) := hideP (below_more (below1 _ _) hb1 (by simp))
      have Q1 : Hid (∀ x, Below w1.heap.size w1 x → x.cell? ⟨wr.heap.size, 0, none⟩ = some (.int .i64 kd) ∧ x.cell? ⟨wr.heap.size, 1, none⟩ = some (.int .i64 wd) ∧ x.cell? ⟨wr.heap.size, 2, none⟩ = some (.int .i64 hh) ∧ x.cell? ⟨wr.heap.size, 3, none⟩ = some (.int .i64 dp) ∧ x.cell? ⟨wr.heap.size, 4, none⟩ = some (.int .i64 sh) ∧ x.cell? ⟨wr.heap.size, 5, none⟩ = some (.int .i64 fo) ∧ x.cell? ⟨wr.heap.size, 6, none⟩ = some (.int .i64 ch) ∧ x.cell? ⟨wr.heap.size, 7, none⟩ = some (.int .i64 nn) ∧ x.cell? ⟨wr.heap.size, 8, none⟩ = some (.int .i64 gs) ∧ x.cell? ⟨wr.heap.size, 9, none⟩ = some (.int .i64 gp) ∧ x.cell? ⟨wr.heap.size, 10, none⟩ = some (.int .i64 gpo) ∧ x.cell? ⟨wr.heap.size, 11, none⟩ = some (.int .i64 gm) ∧ x.cell? ⟨wr.heap.size, 12, none⟩ = some (.int .i64 gmo) ∧ x.cell? ⟨wr.heap.size, 13, none⟩ = some (.string tx) ∧ x.cell? ⟨wr.heap.size, 14, none⟩ = some (.int .i64 kids)) := hideP (fun x hx => by have hb2 := below_more (Below.refl _ _) hb1 (Nat.le_refl _); have hlt : wr.heap.size < w1.heap.size := (by have := hb1.size; simp at this; omega); exact ⟨(Below.cell hx (p := ⟨wr.heap.size, 0, none⟩) hlt).trans ((Below.cell hb1 (p := ⟨wr.heap.size, 0, none⟩) (by simp)).trans (by simp [go_sem])), (Below.cell hx (p := ⟨wr.heap.size, 1, none⟩) hlt).trans ((Below.cell hb1 (p := ⟨wr.heap.size, 1, none⟩) (by simp)).trans (by simp [go_sem])), (Below.cell hx (p := ⟨wr.heap.size, 2, none⟩) hlt).trans ((Below.cell hb1 (p := ⟨wr.heap.size, 2, none⟩) (by simp)).trans (by simp [go_sem])), (Below.cell hx (p := ⟨wr.heap.size, 3, none⟩) hlt).trans ((Below.cell hb1 (p := ⟨wr.heap.size, 3, none⟩) (by simp)).trans (by simp [go_sem])), (Below.cell hx (p := ⟨wr.heap.size, 4, none⟩) hlt).trans ((Below.cell hb1 (p := ⟨wr.heap.size, 4, none⟩) (by simp)).trans (by simp [go_sem])), (Below.cell hx (p := ⟨wr.heap.size, 5, none⟩) hlt).trans ((Below.cell hb1 (p := ⟨wr.heap.size, 5, none⟩) (by simp)).trans (by simp [go_sem])), (Below.cell hx (p := ⟨wr.heap.size, 6, none⟩) hlt).trans ((Below.cell hb1 (p := ⟨wr.heap.size, 6, none⟩) (by simp)).trans (by simp [go_sem])), (Below.cell hx (p := ⟨wr.heap.size, 7, none⟩) hlt).trans ((Below.cell hb1 (p := ⟨wr.heap.size, 7, none⟩) (by simp)).trans (by simp [go_sem])), (Below.cell hx (p := ⟨wr.heap.size, 8, none⟩) hlt).trans ((Below.cell hb1 (p := ⟨wr.heap.size, 8, none⟩) (by simp)).trans (by simp [go_sem])), (Below.cell hx (p := ⟨wr.heap.size, 9, none⟩) hlt).trans ((Below.cell hb1 (p := ⟨wr.heap.size, 9, none⟩) (by simp)).trans (by simp [go_sem])), (Below.cell hx (p := ⟨wr.heap.size, 10, none⟩) hlt).trans ((Below.cell hb1 (p := ⟨wr.heap.size, 10, none⟩) (by simp)).trans (by simp [go_sem])), (Below.cell hx (p := ⟨wr.heap.size, 11, none⟩) hlt).trans ((Below.cell hb1 (p := ⟨wr.heap.size, 11, none⟩) (by simp)).trans (by simp [go_sem])), (Below.cell hx (p := ⟨wr.heap.size, 12, none⟩) hlt).trans ((Below.cell hb1 (p := ⟨wr.heap.size, 12, none⟩) (by simp)).trans (by simp [go_sem])), (Below.cell hx (p := ⟨wr.heap.size, 13, none⟩) hlt).trans ((Below.cell hb1 (p := ⟨wr.heap.size, 13, none⟩) (by simp)).trans (by simp [go_sem])), (Below.cell hx (p := ⟨wr.heap.size, 14, none⟩) hlt).trans ((Below.cell hb1 (p := ⟨wr.heap.size, 14, none⟩) (by simp)).trans (by simp [go_sem]))⟩)
      clear hb1 g0 g1 g2 g3 g4 g5 g6 g7 g8 g9 g10 g11 g12 g13 g14
      obtain ⟨n0, n1, n2, n3, n4, n5, n6, n7, n8, n9, n10, n11, n12, n13, n14⟩ := Q1.out w1 (Below.refl _ _)
      cases sb with
      | false =>
       have HBAD : Hid (okFrom n 0 [] xs = false) := hideP (by have h := HLf.out.bad HKL.out (by rw [← HT.out]; unfold goodB; rw [← HSB.out]; rfl); rw [← HN.out] at h; exact h)
       go_wp2
       go_ret
       exact ⟨_, rfl, HBAD.out.symm, BOUT.out _ B1.out⟩
      | true =>
       by_cases hk0 : kids < 0
       ·have hd0 : decide (kids < 0) = true := decide_eq_true hk0
        have HBAD : Hid (okFrom n 0 [] xs = false) := hideP (by have h := HLf.out.bad HKL.out (by rw [← HT.out]; unfold goodB; dsimp only; rw [decide_eq_false (by omega)]; simp); rw [← HN.out] at h; exact h)
        go_wp2
        go_ret
        exact ⟨_, rfl, HBAD.out.symm, BOUT.out _ B1.out⟩
       ·by_cases hover : a - (k : Int) - 1 < kids
        ·have hd0 : decide (kids < 0) = false := decide_eq_false hk0
         have hd1 : decide (a - (k : Int) - 1 < kids) = true := decide_eq_true hover
         have HBAD : Hid (okFrom n 0 [] xs = false) := hideP (by have h := HLf.out.over HKL.out (by rw [← HPOP.out, ← HN.out, ← HZ.out, ← HT.out]; dsimp only; omega); rw [← HN.out] at h; exact h)
         go_wp2
         go_ret
         exact ⟨_, rfl, HBAD.out.symm, BOUT.out _ B1.out⟩
        ·have hd0 : decide (kids < 0) = false := decide_eq_false hk0
         have hd1 : decide (a - (k : Int) - 1 < kids) = false := decide_eq_false hover
         have HGT : Hid (goodB (xs.getD k Nd.none) = true) := hideP (by rw [← HT.out]; unfold goodB; dsimp only; rw [← HSB.out, decide_eq_true (by omega)]; rfl)
         have HLE : Hid ((xs.getD k Nd.none).kids ≤ (T.dropWhile (· == (k : Int))).headD xs.length - k - 1) := hideP (by rw [← HPOP.out, ← HN.out, ← HZ.out, ← HT.out]; dsimp only; omega)
         have hkl : 0 ≤ kids := by omega
         have hkz : kids ≤ a - (k : Int) - 1 := by omega
         clear hk0 hover
         go_wp2_with fail
         refine (DC.out _).mono ?_
         rintro e w2 ⟨rfl, hb2⟩
         have B2 : Hid (Below wr.heap.size wr w2) := hideP (below_more B1.out hb2 B1.out.size)
         have HI2 : Hid (IR w2 w.heap.size (.slice (some ⟨g, 0, none⟩) (q + 1) c) (q + 1) (a :: U).reverse) := hideP (HIU.out.below B2.out)
         obtain ⟨m0, m1, m2, m3, m4, m5, m6, m7, m8, m9, m10, m11, m12, m13, m14⟩ := Q1.out w2 hb2
         clear hb2 n0 n1 n2 n3 n4 n5 n6 n7 n8 n9 n10 n11 n12 n13 n14 Q1 B1
         cases db with
         | false =>
          have HFL : Hid (LeftS xs (k + 1) (a :: U) m) := hideP (by rw [HPOP.out]; exact HLf.out.flat HKL.out HGT.out (by rw [← HT.out]; exact HDB.out.symm))
          go_wp2
          go_roundw
          case rel => exact ⟨k + 1, (a :: U), g, (q + 1), c, m, by omega, by go_num, rfl, rfl, HU.out, HI2.out, BOUT.out _ B2.out, HFL⟩
          case measure => simp [intOf]; omega
         | true =>
          have HDL : Hid (LeftS xs (k + 1) (((k : Int) + 1 + kids) :: (a :: U)) (mostOf m (q + 1))) := hideP (by
           have h := HLf.out.deep HKL.out HGT.out (by rw [← HT.out]; exact HDB.out.symm) HLE.out
           rw [← HPOP.out, HU.out, ← HT.out] at h
           exact h)
          by_cases hmost : m < ((q + 1) : Int) + 1
          ·have hd3 : decide (m < ((q + 1) : Int) + 1) = true := decide_eq_true hmost
           have HMV : Hid (mostOf m (q + 1) = (((q + 1) : Int) + 1)) := hideP (by unfold mostOf; split <;> omega)
           by_cases hkp : 0 < kids
           ·have hd2 : decide (0 < kids) = true := decide_eq_true hkp
            obtain ⟨i0, hi, hy0, hy1, hy2⟩ := info_parts Tryz.info3b
            have hw2 : w.heap.size ≤ w2.heap.size := (BOUT.out _ B2.out).size
            go_wp2_with (at_builtin; refine wpList_append_own_at _ rfl _ _ 182 rfl w.heap.size 3 i0 (.int .i64 0) 1 8 Tryz.underlying182 hi hy0 hy1 hy2 rfl (by decide) _ _ _ rfl (HI2.out.alloc _) ⟨w2.heap.size, 0, none⟩ 1 1 [.int .i64 ((k : Int) + 1 + kids)] rfl rfl (cell_one_new _ _ _) (by intro u hu; simp at hu; subst hu; rfl) (by unfold maxLen; omega) (by omega) (by simp; omega) ?_; intro v6 w6 hown6 hgrow6 hnil6 hlies6)
            have hg6 : (w2.alloc (.cells #[.int .i64 ((k : Int) + 1 + kids)] 3)).grownBy w6 (some g) := hgrow6
            have hI6 : IR w6 w.heap.size v6 ((q + 1) + 1) (((k : Int) + 1 + kids) :: (a :: U)).reverse := by
             rw [List.reverse_cons]
             show w6.ownsRow w.heap.size 3 1 v6 ((q + 1) + 1) (((a :: U).reverse ++ [(k : Int) + 1 + kids]).map (Value.int .i64))
             rw [List.map_append]
             exact hown6
            have hB6 : Below w.heap.size w w6 := Below.grown ((BOUT.out _ B2.out).alloc (BOUT.out _ B2.out).size _) hg6 (by have := (BOUT.out _ B2.out).size; simp; omega) (by intro j hj; simp at hj; subst hj; exact (stk_cap HI2.out).2.2.1)
            clear hown6 hgrow6 hnil6 hlies6 hg6
            go_roundw
            case rel =>
             obtain ⟨g6, c6, rfl⟩ : ∃ g c, v6 = .slice (some ⟨g, 0, none⟩) ((q + 1) + 1) c := by
              rcases hI6.2 with ⟨_, h⟩ | ⟨g, c, cur, h, _⟩
              ·omega
              ·exact ⟨g, c, h⟩
             exact ⟨k + 1, ((k : Int) + 1 + kids) :: (a :: U), g6, (q + 1) + 1, c6, (((q + 1) : Int) + 1), by omega, by go_num, rfl, rfl, by simp [HU.out], hI6, hB6, hideP (by rw [← HMV.out]; exact HDL.out)⟩
            case measure => simp [intOf]; omega
           ·have hd2 : decide (0 < kids) = false := decide_eq_false hkp
            go_wp2
            go_roundw
            case rel => exact ⟨k + 1, (a :: U), g, (q + 1), c, (((q + 1) : Int) + 1), by omega, by go_num, rfl, rfl, HU.out, HI2.out, BOUT.out _ B2.out, hideP (by have h := HDL.out; rw [show kids = 0 by omega, HMV.out, Int.add_zero] at h; exact h.empty)⟩
            case measure => simp [intOf]; omega
          ·have hd3 : decide (m < ((q + 1) : Int) + 1) = false := decide_eq_false hmost
           have HMV : Hid (mostOf m (q + 1) = m) := hideP (by unfold mostOf; split <;> omega)
           by_cases hkp : 0 < kids
           ·have hd2 : decide (0 < kids) = true := decide_eq_true hkp
            obtain ⟨i0, hi, hy0, hy1, hy2⟩ := info_parts Tryz.info3b
            have hw2 : w.heap.size ≤ w2.heap.size := (BOUT.out _ B2.out).size
            go_wp2_with (at_builtin; refine wpList_append_own_at _ rfl _ _ 182 rfl w.heap.size 3 i0 (.int .i64 0) 1 8 Tryz.underlying182 hi hy0 hy1 hy2 rfl (by decide) _ _ _ rfl (HI2.out.alloc _) ⟨w2.heap.size, 0, none⟩ 1 1 [.int .i64 ((k : Int) + 1 + kids)] rfl rfl (cell_one_new _ _ _) (by intro u hu; simp at hu; subst hu; rfl) (by unfold maxLen; omega) (by omega) (by simp; omega) ?_; intro v6 w6 hown6 hgrow6 hnil6 hlies6)
            have hg6 : (w2.alloc (.cells #[.int .i64 ((k : Int) + 1 + kids)] 3)).grownBy w6 (some g) := hgrow6
            have hI6 : IR w6 w.heap.size v6 ((q + 1) + 1) (((k : Int) + 1 + kids) :: (a :: U)).reverse := by
             rw [List.reverse_cons]
             show w6.ownsRow w.heap.size 3 1 v6 ((q + 1) + 1) (((a :: U).reverse ++ [(k : Int) + 1 + kids]).map (Value.int .i64))
             rw [List.map_append]
             exact hown6
            have hB6 : Below w.heap.size w w6 := Below.grown ((BOUT.out _ B2.out).alloc (BOUT.out _ B2.out).size _) hg6 (by have := (BOUT.out _ B2.out).size; simp; omega) (by intro j hj; simp at hj; subst hj; exact (stk_cap HI2.out).2.2.1)
            clear hown6 hgrow6 hnil6 hlies6 hg6
            go_roundw
            case rel =>
             obtain ⟨g6, c6, rfl⟩ : ∃ g c, v6 = .slice (some ⟨g, 0, none⟩) ((q + 1) + 1) c := by
              rcases hI6.2 with ⟨_, h⟩ | ⟨g, c, cur, h, _⟩
              ·omega
              ·exact ⟨g, c, h⟩
             exact ⟨k + 1, ((k : Int) + 1 + kids) :: (a :: U), g6, (q + 1) + 1, c6, m, by omega, by go_num, rfl, rfl, by simp [HU.out], hI6, hB6, hideP (by rw [← HMV.out]; exact HDL.out)⟩
            case measure => simp [intOf]; omega
           ·have hd2 : decide (0 < kids) = false := decide_eq_false hkp
            go_wp2
            go_roundw
            case rel => exact ⟨k + 1, (a :: U), g, (q + 1), c, m, by omega, by go_num, rfl, rfl, HU.out, HI2.out, BOUT.out _ B2.out, hideP (by have h := HDL.out; rw [show kids = 0 by omega, HMV.out, Int.add_zero] at h; exact h.empty)⟩
            case measure => simp [intOf]; omega
  ·have hki : ¬ (k : Int) < (n : Int) := by omega
   obtain rfl : k = n := by omega
   have HB := hideP hbel
   have HE : Hid ((decide (0 ≤ m) && decide (m ≤ 41)) = okFrom k 0 [] xs) := hideP (by
    have h := HLf.out
    rw [HN.out] at h
    have h2 := h.done
    rw [← HN.out] at h2
    rw [h2, decide_eq_true h.pos]
    rfl)
   clear hbel hI
   go_wp2
   go_ret
   exact ⟨_, rfl, HE.out, HB.out⟩
end Go.Proofs.YtlohbaoigfaneaaGreat
