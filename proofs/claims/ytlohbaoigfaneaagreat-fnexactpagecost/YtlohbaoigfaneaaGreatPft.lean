import Derived.Test.YtlohbaoigfaneaaGreatPur
import Derived.Test.YtlohbaoigfaneaaGreatMak
import Derived.Test.YtlohbaoigfaneaaGreatGlue
import Derived.Test.YtlohbaoigfaneaaGreatTrn
import Derived.Test.YtlohbaoigfaneaaGreatLtm
import Derived.Test.YtlohbaoigfaneaaGreatSpf
namespace Go.Proofs.YtlohbaoigfaneaaGreat
open Go.RowKit
set_option linter.unusedVariables false
set_option linter.unusedSimpArgs false
set_option maxHeartbeats 4000000 in
theorem specSheet_any (x : Sh) (w : World) : Calls Tryz.prog 48 #[shV x] w fun e w' => e = .returned (.bool (shB x)) ∧ Below w.heap.size w w' := by
 obtain ⟨ht, dp, g0, g1, g2, g3, g4, nt⟩ := x
 simp only [shV]
 by_cases p_ht : 0 ≤ ht
 case neg =>
  have q : uptoB ht 1073741823 = false := upto_no (by omega)
  rw [show shB ⟨ht, dp, g0, g1, g2, g3, g4, nt⟩ = false by simp [shB, q]]
  clear q
  go_enter Tryz.func48, Tryz.ntmps48
  go_wp2
  go_ret
  exact ⟨rfl, below1 _ _⟩
 case pos =>
  by_cases q_ht : ht ≤ 1073741823
  case neg =>
   have q : uptoB ht 1073741823 = false := upto_no (by omega)
   rw [show shB ⟨ht, dp, g0, g1, g2, g3, g4, nt⟩ = false by simp [shB, q]]
   clear q
   go_enter Tryz.func48, Tryz.ntmps48
   go_wp2
   go_ret
   exact ⟨rfl, below1 _ _⟩
  case pos =>
   by_cases p_dp : 0 ≤ dp
   case neg =>
    have q : uptoB dp 1073741823 = false := upto_no (by omega)
    rw [show shB ⟨ht, dp, g0, g1, g2, g3, g4, nt⟩ = false by simp [shB, q]]
    clear q
    go_enter Tryz.func48, Tryz.ntmps48
    go_wp2
    go_ret
    exact ⟨rfl, below1 _ _⟩
   case pos =>
    by_cases q_dp : dp ≤ 1073741823
    case neg =>
     have q : uptoB dp 1073741823 = false := upto_no (by omega)
     rw [show shB ⟨ht, dp, g0, g1, g2, g3, g4, nt⟩ = false by simp [shB, q]]
     clear q
     go_enter Tryz.func48, Tryz.ntmps48
     go_wp2
     go_ret
     exact ⟨rfl, below1 _ _⟩
    case pos =>
     by_cases p_nt : 0 ≤ nt
     case neg =>
      have q : uptoB nt 1073741823 = false := upto_no (by omega)
      rw [show shB ⟨ht, dp, g0, g1, g2, g3, g4, nt⟩ = false by simp [shB, q]]
      clear q
      go_enter Tryz.func48, Tryz.ntmps48
      go_wp2
      go_ret
      exact ⟨rfl, below1 _ _⟩
     case pos =>
      by_cases q_nt : nt ≤ 1073741823
      case neg =>
       have q : uptoB nt 1073741823 = false := upto_no (by omega)
       rw [show shB ⟨ht, dp, g0, g1, g2, g3, g4, nt⟩ = false by simp [shB, q]]
       clear q
       go_enter Tryz.func48, Tryz.ntmps48
       go_wp2
       go_ret
       exact ⟨rfl, below1 _ _⟩
      case pos =>
       rw [show shB ⟨ht, dp, g0, g1, g2, g3, g4, nt⟩ = glB g0 g1 g2 g3 g4 by simp [shB, upto_yes p_ht q_ht, upto_yes p_dp q_dp, upto_yes p_nt q_nt]]
       go_enter Tryz.func48, Tryz.ntmps48
       go_wp2_with fail
       refine (specGlueOk_any _ _ _ _ _ _).mono ?_
       rintro e w1 ⟨rfl, hb1⟩
       have B1 : Hid (Below w.heap.size w w1) := hideP (below_more (below1 _ _) hb1 (by simp))
       clear hb1
       go_wp2
       go_ret
       exact ⟨rfl, B1.out⟩
set_option maxHeartbeats 4000000 in
theorem implSheet_any (x : Sh) (w : World) : Calls Tryz.prog 88 #[shV x] w fun e w' => e = .returned (.bool (shB x)) ∧ Below w.heap.size w w' := by
 obtain ⟨ht, dp, g0, g1, g2, g3, g4, nt⟩ := x
 simp only [shV]
 cases h_ht : uptoB ht 1073741823
 case false =>
  rw [show shB ⟨ht, dp, g0, g1, g2, g3, g4, nt⟩ = false by simp [shB, h_ht]]
  go_enter Tryz.func88, Tryz.ntmps88
  go_wp2_with (go_at_call 50; refine (upTo_any _ _ _).mono ?_; rintro e w' ⟨rfl, rfl⟩)
  go_ret
  exact ⟨rfl, below1 _ _⟩
 case true =>
  cases h_dp : uptoB dp 1073741823
  case false =>
   rw [show shB ⟨ht, dp, g0, g1, g2, g3, g4, nt⟩ = false by simp [shB, h_dp]]
   go_enter Tryz.func88, Tryz.ntmps88
   go_wp2_with (go_at_call 50; refine (upTo_any _ _ _).mono ?_; rintro e w' ⟨rfl, rfl⟩)
   go_ret
   exact ⟨rfl, below1 _ _⟩
  case true =>
   go_enter Tryz.func88, Tryz.ntmps88
   go_wp2_with (go_at_call 50; refine (upTo_any _ _ _).mono ?_; rintro e w' ⟨rfl, rfl⟩)
   refine (implGlueOk_any _ _ _ _ _ _).mono ?_
   rintro e w1 ⟨rfl, hb1⟩
   have hs1 : w.heap.size < w1.heap.size := by have := hb1.size; simp at this; omega
   have B1 : Hid (Below w.heap.size w w1) := hideP (below_more (below1 _ _) hb1 (by simp))
   obtain ⟨hc1, hf1⟩ := bcell hb1
   try simp only [World.size_alloc] at hc1 hf1
   clear hb1
   cases g1 : glB g0 g1 g2 g3 g4
   ·go_wp2
    go_ret
    exact ⟨retB (by simp [shB, g1]), B1.out⟩
   ·go_wp2_with (go_at_call 50; refine (upTo_any _ _ _).mono ?_; rintro e w' ⟨rfl, rfl⟩)
    go_ret
    exact ⟨retB (by simp [shB, g1, h_ht, h_dp]), B1.out⟩
set_option maxHeartbeats 4000000 in
theorem toSheet_any (x : Sh) (w : World) : Calls Tryz.prog 15 #[shV x] w fun r w' => r = .returned (shV x) ∧ Below w.heap.size w w' := by
 obtain ⟨ht, dp, g0, g1, g2, g3, g4, nt⟩ := x
 simp only [shV]
 go_enter Tryz.func15, Tryz.ntmps15
 go_wp2_with fail
 refine (toGlue_any _ _ _ _ _ _).mono ?_
 rintro e w1 ⟨rfl, hb1⟩
 have hz1 : w.heap.size + 1 + 1 < w1.heap.size := by have := hb1.size; simp at this; omega
 have hy1 : w.heap.size + 1 < w1.heap.size := by omega
 have hx1 : w.heap.size < w1.heap.size := by omega
 have B1 : Hid (Below w.heap.size w w1) := by
  refine below_more ?_ hb1 (by simp; omega)
  repeat (first | with_reducible exact below3 _ _ _ _ | (with_reducible refine Below.setCell ?_ ?_ _; rotate_left; focus (first | (simp; done) | (simp; omega))))
 obtain ⟨hc1, hf1⟩ := bcell hb1
 try simp only [World.size_setCell, World.size_alloc] at hc1 hf1
 clear hb1
 go_wp2
 refine bodyPost_ret (v := shV ⟨ht, dp, g0, g1, g2, g3, g4, nt⟩) (by simp [results, Tryz.results15, go_sem, hc1, hx1, hy1, hz1]) rfl ⟨rfl, ?_⟩
 have B2 := B1.out
 clear hc1 hf1 B1
 repeat (first | with_reducible exact B2 | (with_reducible refine Below.setCell ?_ ?_ _; rotate_left; focus (first | (simp; done) | (simp; omega))))
set_option maxRecDepth 20000 in
set_option maxHeartbeats 8000000 in
theorem specIs_any {w : World} {v : Value} {ys : List It} {N lo : Nat} (a : Nat) (h : Heads lo w v ys) (hl : ys.length = N) (ha : a ≤ N) (hN : N ≤ 20001) :
 Calls Tryz.prog 83 #[v, .int .i64 (a : Int)] w fun e w' => e = .returned (.bool (pbB ys a)) ∧ Below w.heap.size w w' := by
 obtain ⟨ao, cap, rfl, hc⟩ := h.is
 rw [hl] at hc ⊢
 by_cases he : a = N
 ·have HB : Hid (pbB ys a = true) := hideP (by unfold pbB; rw [if_pos (by omega)])
  rw [HB.out]
  have hei : (a : Int) = (N : Int) := by omega
  have heb : ((a : Int) == (N : Int)) = true := by simp [he]
  clear hc HB
  go_enter Tryz.func83, Tryz.ntmps83
  go_wp2
  go_ret
  first | exact ⟨rfl, Below.refl _ _⟩ | exact ⟨rfl, below1 _ _⟩
 ·have hei : ¬ (a : Int) = (N : Int) := by omega
  have heb : ((a : Int) == (N : Int)) = false := by simp; omega
  have hai : (a : Int) < (N : Int) := by omega
  obtain ⟨b, off, rfl, _, hbl, hcell⟩ := hc (by omega)
  obtain ⟨u, rest, hu, hrow⟩ := hcell a (by omega)
  obtain ⟨x, hx⟩ : ∃ x, x = (ys.getD a It.none).1 := ⟨_, rfl⟩
  rw [← hx] at hrow
  have HX := hideP hx
  obtain ⟨b2, off2, n2, cap2, rfl, hn2, hb2, hcs⟩ := head_cells hrow
  obtain ⟨R, hR⟩ : ∃ R, R = pbB ys a := ⟨_, rfl⟩
  rw [← hR]
  unfold pbB brkB at hR
  rw [if_neg (by omega), ← hx] at hR
  have HR := hideP hR
  have hn2i : (0 : Int) < (n2 : Int) := by omega
  obtain ⟨k, wd, ht, dp, sh, fo, ch, nn, gs, gp, gpo, gm, gmo, tx, kids⟩ := x
  simp only [Nd.cells] at hcs
  have n100 : w.cell? ⟨b2, off2, none⟩ = some (.int .i64 k) := hcs 0 (by omega)
  have n101 : w.cell? ⟨b2, off2 + 1, none⟩ = some (.int .i64 wd) := hcs 1 (by omega)
  have n102 : w.cell? ⟨b2, off2 + 2, none⟩ = some (.int .i64 ht) := hcs 2 (by omega)
  have n103 : w.cell? ⟨b2, off2 + 3, none⟩ = some (.int .i64 dp) := hcs 3 (by omega)
  have n104 : w.cell? ⟨b2, off2 + 4, none⟩ = some (.int .i64 sh) := hcs 4 (by omega)
  have n105 : w.cell? ⟨b2, off2 + 5, none⟩ = some (.int .i64 fo) := hcs 5 (by omega)
  have n106 : w.cell? ⟨b2, off2 + 6, none⟩ = some (.int .i64 ch) := hcs 6 (by omega)
  have n107 : w.cell? ⟨b2, off2 + 7, none⟩ = some (.int .i64 nn) := hcs 7 (by omega)
  have n108 : w.cell? ⟨b2, off2 + 8, none⟩ = some (.int .i64 gs) := hcs 8 (by omega)
  have n109 : w.cell? ⟨b2, off2 + 9, none⟩ = some (.int .i64 gp) := hcs 9 (by omega)
  have n110 : w.cell? ⟨b2, off2 + 10, none⟩ = some (.int .i64 gpo) := hcs 10 (by omega)
  have n111 : w.cell? ⟨b2, off2 + 11, none⟩ = some (.int .i64 gm) := hcs 11 (by omega)
  have n112 : w.cell? ⟨b2, off2 + 12, none⟩ = some (.int .i64 gmo) := hcs 12 (by omega)
  have n113 : w.cell? ⟨b2, off2 + 13, none⟩ = some (.string tx) := hcs 13 (by omega)
  have n114 : w.cell? ⟨b2, off2 + 14, none⟩ = some (.int .i64 kids) := hcs 14 (by omega)
  simp only at HR
  clear hcs hR hx
  by_cases h3 : k = 3
  ·subst h3
   by_cases h0 : a = 0
   ·have HE : Hid (R = false) := hideP (by rw [HR.out, if_pos rfl, decide_eq_false (by omega)]; rfl)
    rw [HE.out]
    have hnp : ¬ (0 : Int) < (a : Int) := by omega
    clear hcell hc HE HR h0
    go_enter Tryz.func83, Tryz.ntmps83
    go_wp2
    go_ret
    first | exact ⟨rfl, below1 _ _⟩ | exact ⟨rfl, Below.refl _ _⟩ | exact ⟨rfl, below2 _ _ _⟩
   ·have hap : (0 : Int) < (a : Int) := by omega
    obtain ⟨d, hd⟩ : ∃ d, d = a - 1 := ⟨_, rfl⟩
    obtain ⟨u3, rest3, hu3, hrow3⟩ := hcell d (by omega)
    obtain ⟨y, hy⟩ : ∃ y, y = (ys.getD d It.none).1 := ⟨_, rfl⟩
    rw [← hy] at hrow3
    obtain ⟨b3, off3, n3, cap3, rfl, hn3, hb3, hcs3⟩ := head_cells hrow3
    have HE : Hid (R = !discB y) := hideP (by rw [HR.out, if_pos rfl, decide_eq_true (by omega), ← hd, ← hy]; rfl)
    have DC : Hid (∀ W, Calls Tryz.prog 62 #[ndV y] W fun e w' => e = .returned (.bool (discB y)) ∧ Below W.heap.size W w') := hideP (fun W => specDisc_any y W)
    obtain ⟨dy, hdy⟩ : ∃ v, v = discB y := ⟨_, rfl⟩
    rw [← hdy] at DC HE
    rw [HE.out]
    clear hdy hy
    obtain ⟨k2, wd2, ht2, dp2, sh2, fo2, ch2, nn2, gs2, gp2, gpo2, gm2, gmo2, tx2, kids2⟩ := y
    simp only [Nd.cells] at hcs3
    simp only [ndV] at DC
    have m100 : w.cell? ⟨b3, off3, none⟩ = some (.int .i64 k2) := hcs3 0 (by omega)
    have m101 : w.cell? ⟨b3, off3 + 1, none⟩ = some (.int .i64 wd2) := hcs3 1 (by omega)
    have m102 : w.cell? ⟨b3, off3 + 2, none⟩ = some (.int .i64 ht2) := hcs3 2 (by omega)
    have m103 : w.cell? ⟨b3, off3 + 3, none⟩ = some (.int .i64 dp2) := hcs3 3 (by omega)
    have m104 : w.cell? ⟨b3, off3 + 4, none⟩ = some (.int .i64 sh2) := hcs3 4 (by omega)
    have m105 : w.cell? ⟨b3, off3 + 5, none⟩ = some (.int .i64 fo2) := hcs3 5 (by omega)
    have m106 : w.cell? ⟨b3, off3 + 6, none⟩ = some (.int .i64 ch2) := hcs3 6 (by omega)
    have m107 : w.cell? ⟨b3, off3 + 7, none⟩ = some (.int .i64 nn2) := hcs3 7 (by omega)
    have m108 : w.cell? ⟨b3, off3 + 8, none⟩ = some (.int .i64 gs2) := hcs3 8 (by omega)
    have m109 : w.cell? ⟨b3, off3 + 9, none⟩ = some (.int .i64 gp2) := hcs3 9 (by omega)
    have m110 : w.cell? ⟨b3, off3 + 10, none⟩ = some (.int .i64 gpo2) := hcs3 10 (by omega)
    have m111 : w.cell? ⟨b3, off3 + 11, none⟩ = some (.int .i64 gm2) := hcs3 11 (by omega)
    have m112 : w.cell? ⟨b3, off3 + 12, none⟩ = some (.int .i64 gmo2) := hcs3 12 (by omega)
    have m113 : w.cell? ⟨b3, off3 + 13, none⟩ = some (.string tx2) := hcs3 13 (by omega)
    have m114 : w.cell? ⟨b3, off3 + 14, none⟩ = some (.int .i64 kids2) := hcs3 14 (by omega)
    have hdn : (d : Int) < (N : Int) := by omega
    have hwd : IntKind.i64.wrap ((a : Int) - 1) = (d : Int) := by rw [IntKind.wrap_i64]; omega
    have hdi : ((a : Int) - 1) = (d : Int) := by omega
    have hn3i : (0 : Int) < (n3 : Int) := by omega
    clear hcs3 hcell hc HR hd h0
    go_enter Tryz.func83, Tryz.ntmps83
    go_wp2_with fail
    refine (DC.out _).mono ?_
    rintro e w7 ⟨rfl, hb7⟩
    have B7 : Hid (Below w.heap.size w w7) := hideP (by first | exact below_more (below1 _ _) hb7 (by simp) | exact hb7)
    clear hb7
    go_wp2
    go_ret
    exact ⟨rfl, B7.out⟩
  ·have HE : Hid (R = if k = 4 then decide (nn < 10000) else false) := hideP (by rw [HR.out, if_neg h3])
   have b3 : (k == 3) = false := by simp [h3]
   by_cases h4 : k = 4
   ·subst h4
    have HE2 : Hid (R = decide (nn < 10000)) := hideP (by rw [HE.out, if_pos rfl])
    rw [HE2.out]
    clear HE HE2 HR hcell hc
    go_enter Tryz.func83, Tryz.ntmps83
    go_wp2
    go_ret
    first | exact ⟨rfl, below1 _ _⟩ | exact ⟨rfl, Below.refl _ _⟩
   ·have HE2 : Hid (R = false) := hideP (by rw [HE.out, if_neg h4])
    have b4 : (k == 4) = false := by simp [h4]
    rw [HE2.out]
    clear HE HE2 HR hcell hc
    go_enter Tryz.func83, Tryz.ntmps83
    go_wp2
    go_ret
    first | exact ⟨rfl, below1 _ _⟩ | exact ⟨rfl, Below.refl _ _⟩
set_option maxHeartbeats 4000000 in
theorem specStack2_any {v : Value} {xs : List Nd} {w : World} (h : NRow 0 w v xs) (hs : xs.length ≤ 1048576) (hcp : ∀ a n c, v = .slice a n c → n ≤ c ∧ c ≤ 9223372036854775807) :
 Calls Tryz.prog 47 #[v] w fun e W' => (listB xs = false → ∃ u, e = .returned (.tuple #[u, .bool false])) ∧ (listB xs = true → ∃ u, e = .returned (.tuple #[u, .bool (decide (((its xs).length : Int) ≤ 4000))]) ∧ HR w.heap.size W' u xs) ∧ Below w.heap.size w W' := by
 have LC : Hid (∀ W, Below w.heap.size w W → Calls Tryz.prog 53 #[v] W fun e w' => e = .returned (.bool (listB xs)) ∧ Below W.heap.size W w') := hideP (fun W hW => specListOk_any (SRow.below ndStable h hW) hs)
 have IC : Hid (listB xs = true → ∀ W, Below w.heap.size w W → Calls Tryz.prog 54 #[v] W fun e W' => (∃ u cap, e = .returned (.slice u (its xs).length cap) ∧ HR W.heap.size W' (.slice u (its xs).length cap) xs) ∧ Below W.heap.size W W') := hideP (fun ho W hW => by
  refine (specItems_any (SRow.below ndStable h hW) hs hcp).mono ?_
  rintro e W' ⟨⟨u, vs, rfl, h1, h2⟩, h3⟩
  obtain ⟨hh, hlen⟩ := heads_of ho h1 h2
  have hw := rws_of h1 rfl h2
  obtain ⟨ao, cap, rfl, _⟩ := own25_shape h1
  have hhr : HR W.heap.size W' (.slice ao (itemsOf xs).length cap) xs := ⟨hh, hw⟩
  rw [hlen] at hhr ⊢
  exact ⟨⟨ao, cap, rfl, hhr⟩, h3⟩)
 obtain ⟨ao, n, cap, rfl, hl, hr⟩ := h
 obtain ⟨ob, hob⟩ : ∃ ob, ob = listB xs := ⟨_, rfl⟩
 rw [← hob] at LC IC ⊢
 clear hr hl hcp hob
 have IC2 : Hid (ob = true → _) := IC
 clear IC
 go_enter Tryz.func47, Tryz.ntmps47
 go_wp2_with fail
 refine (LC.out _ (by first | exact Below.refl _ _ | exact below1 _ _)).mono ?_
 rintro e w2 ⟨rfl, hb2⟩
 have B2 : Hid (Below w.heap.size w w2) := hideP (by first | exact hb2 | exact below_more (below1 _ _) hb2 (by simp))
 clear hb2
 cases hq : ob with
 | false =>
  subst hq
  clear IC2 LC
  go_wp2
  exact bodyPost_ret (v := .tuple #[.slice (some ⟨w2.heap.size, 0, none⟩) 0 0, .bool false]) (by simp [results, Tryz.results47, go_sem]) rfl ⟨⟨_, rfl⟩, B2.out.alloc B2.out.size _⟩
 | true =>
  have IC3 := hideP (IC2.out hq)
  subst hq
  clear IC2 LC
  go_wp2_with fail
  refine (IC3.out _ B2.out).mono ?_
  rintro e w3 ⟨⟨u, uc, rfl, hh⟩, hb3⟩
  have B3 : Hid (Below w.heap.size w w3) := hideP (below_more B2.out hb3 B2.out.size)
  have HH := hideP hh
  clear hb3 hh
  go_wp2
  exact bodyPost_ret (v := .tuple #[.slice u (its xs).length uc, .bool (decide (((its xs).length : Int) ≤ 4000))]) (by simp [results, Tryz.results47, go_sem]) rfl ⟨⟨_, rfl, HH.out.mono B2.out.size⟩, B3.out⟩
set_option maxRecDepth 20000 in
set_option maxHeartbeats 4000000 in
theorem specBeg_any {w : World} {v : Value} {ys : List It} {N lo : Nat} (a b : Nat) (h : Heads lo w v ys) (hl : ys.length = N) (hab : a ≤ b) (hb : b ≤ N) (hN : N ≤ 20001) :
 Calls Tryz.prog 85 #[v, .int .i64 (a : Int), .int .i64 (b : Int)] w fun e w' => e = .returned (.int .i64 ((begI ys a b : Nat) : Int)) ∧ Below w.heap.size w w' := by
 have HH := hideP h
 obtain ⟨ao, cap, rfl, hc⟩ := h.is
 rw [hl] at HH
 clear hc
 rw [hl]
 have HL := hideP hl
 clear hl
 go_enter Tryz.func85, Tryz.ntmps85
 go_wp2
 go_loopw [1] (fun s wr => ∃ k : Nat, s = .int .i64 (k : Int) ∧ a ≤ k ∧ k ≤ b ∧ Hid (begI ys k b = begI ys a b) ∧ Below w.heap.size w wr) (fun s _ => b - (intOf s).toNat)
 case atStart => exact ⟨a, rfl, Nat.le_refl _, hab, hideP rfl, Below.refl _ _⟩
 case round =>
  obtain ⟨k, rfl, hk1, hk2, HB, hB⟩ := hrel
  by_cases hkb : k < b
  ·have hki : (k : Int) < (b : Int) := by omega
   have hkN : (k : Int) < (N : Int) := by omega
   obtain ⟨ao2, cap2', hvv, hc⟩ := (HH.out.abv (Abv.below hB)).is
   rw [HL.out] at hvv hc
   simp only [Value.slice.injEq] at hvv
   obtain ⟨rfl, _, rfl⟩ := hvv
   obtain ⟨b1, off, rfl, _, hbl, hcell⟩ := hc (by omega)
   obtain ⟨u, rest, hu, hrow⟩ := hcell k (by omega)
   obtain ⟨x, hx⟩ : ∃ x, x = (ys.getD k It.none).1 := ⟨_, rfl⟩
   rw [← hx] at hrow
   obtain ⟨b2, off2, n2, cap2, rfl, hn2, hb2, hcs⟩ := head_cells hrow
   have hn2i : (0 : Int) < (n2 : Int) := by omega
   have hstep := begI_step ys k b hkb
   rw [← hx] at hstep
   have DC : Hid (∀ W, Calls Tryz.prog 62 #[ndV x] W fun e w' => e = .returned (.bool (discB x)) ∧ Below W.heap.size W w') := hideP (fun W => specDisc_any x W)
   obtain ⟨d, hd⟩ : ∃ v, v = discB x := ⟨_, rfl⟩
   rw [← hd] at DC hstep
   have HST := hideP hstep
   clear hd hx hstep hrow hcell hc
   obtain ⟨kk, wd, ht, dp, sh, fo, ch, nn, gs, gp, gpo, gm, gmo, tx, kids⟩ := x
   simp only [Nd.cells] at hcs
   simp only [ndV] at DC
   have n100 : wr.cell? ⟨b2, off2, none⟩ = some (.int .i64 kk) := hcs 0 (by omega)
   have n101 : wr.cell? ⟨b2, off2 + 1, none⟩ = some (.int .i64 wd) := hcs 1 (by omega)
   have n102 : wr.cell? ⟨b2, off2 + 2, none⟩ = some (.int .i64 ht) := hcs 2 (by omega)
   have n103 : wr.cell? ⟨b2, off2 + 3, none⟩ = some (.int .i64 dp) := hcs 3 (by omega)
   have n104 : wr.cell? ⟨b2, off2 + 4, none⟩ = some (.int .i64 sh) := hcs 4 (by omega)
   have n105 : wr.cell? ⟨b2, off2 + 5, none⟩ = some (.int .i64 fo) := hcs 5 (by omega)
   have n106 : wr.cell? ⟨b2, off2 + 6, none⟩ = some (.int .i64 ch) := hcs 6 (by omega)
   have n107 : wr.cell? ⟨b2, off2 + 7, none⟩ = some (.int .i64 nn) := hcs 7 (by omega)
   have n108 : wr.cell? ⟨b2, off2 + 8, none⟩ = some (.int .i64 gs) := hcs 8 (by omega)
   have n109 : wr.cell? ⟨b2, off2 + 9, none⟩ = some (.int .i64 gp) := hcs 9 (by omega)
   have n110 : wr.cell? ⟨b2, off2 + 10, none⟩ = some (.int .i64 gpo) := hcs 10 (by omega)
   have n111 : wr.cell? ⟨b2, off2 + 11, none⟩ = some (.int .i64 gm) := hcs 11 (by omega)
   have n112 : wr.cell? ⟨b2, off2 + 12, none⟩ = some (.int .i64 gmo) := hcs 12 (by omega)
   have n113 : wr.cell? ⟨b2, off2 + 13, none⟩ = some (.string tx) := hcs 13 (by omega)
   have n114 : wr.cell? ⟨b2, off2 + 14, none⟩ = some (.int .i64 kids) := hcs 14 (by omega)
   have HBW := hideP hB
   clear hcs hB
   go_wp2_with fail
   refine (DC.out _).mono ?_
   rintro e w7 ⟨rfl, hb7⟩
   have B7 : Hid (Below w.heap.size w w7) := hideP (by first | exact below_more HBW.out hb7 HBW.out.size | exact below_more (HBW.out.alloc HBW.out.size _) hb7 (by have := HBW.out.size; simp; omega))
   clear hb7
   cases d with
   | false =>
    go_wp2
    go_ret
    exact ⟨by rw [← HB.out, HST.out]; rfl, B7.out⟩
   | true =>
    go_wp2
    go_roundw
    case rel => exact ⟨k + 1, by go_num, by omega, by omega, hideP (by rw [← HB.out, HST.out]; rfl), B7.out⟩
    case measure => simp [intOf]; omega
  ·have hki : ¬ (k : Int) < (b : Int) := by omega
   obtain rfl : k = b := by omega
   have HBW := hideP hB
   clear hB
   go_wp2
   go_ret
   exact ⟨by rw [← HB.out, begI_end]; rfl, HBW.out⟩
set_option maxRecDepth 20000 in
set_option maxHeartbeats 4000000 in
theorem specPFits_any {v : Value} {xs : List Nd} {w : World} (S : Sh) (f t : Int) (h : NRow 0 w v xs) (hs : xs.length ≤ 1048576) (hcp : ∀ a n c, v = .slice a n c → n ≤ c ∧ c ≤ 9223372036854775807) :
 Calls Tryz.prog 39 #[v, shV S, .int .i64 f, .int .i64 t] w fun e W' => (fitB xs S f t = false → ∃ u, e = .returned (.tuple #[u, .bool false])) ∧ (fitB xs S f t = true → ∃ u, e = .returned (.tuple #[u, .bool true]) ∧ HR w.heap.size W' u xs) ∧ Below w.heap.size w W' := by
 have SC : Hid (∀ W, Below w.heap.size w W → Calls Tryz.prog 47 #[v] W fun e W' => (listB xs = false → ∃ u, e = .returned (.tuple #[u, .bool false])) ∧ (listB xs = true → ∃ u, e = .returned (.tuple #[u, .bool (decide (((its xs).length : Int) ≤ 4000))]) ∧ HR W.heap.size W' u xs) ∧ Below W.heap.size W W') := hideP (fun W hW => specStack2_any (SRow.below ndStable h hW) hs hcp)
 have SH : Hid (∀ W, Calls Tryz.prog 48 #[shV S] W fun e w' => e = .returned (.bool (shB S)) ∧ Below W.heap.size W w') := hideP (fun W => specSheet_any S W)
 obtain ⟨ao, n, cap, rfl, hl, hr⟩ := h
 obtain ⟨ob, hob⟩ : ∃ ob, ob = listB xs := ⟨_, rfl⟩
 obtain ⟨sb, hsb⟩ : ∃ sb, sb = shB S := ⟨_, rfl⟩
 obtain ⟨R, hR⟩ : ∃ R, R = fitB xs S f t := ⟨_, rfl⟩
 rw [← hob] at SC
 rw [← hsb] at SH
 rw [← hR]
 have HR' : Hid (R = (ob && decide ((its xs).length ≤ 4000) && sb && endsB (its xs) f t)) := hideP (by rw [hR, hob, hsb]; rfl)
 clear hr hl hcp hob hsb hR
 obtain ⟨s0, s1, s2, s3, s4, s5, s6, s7⟩ := S
 simp only [shV] at SH ⊢
 go_enter Tryz.func39, Tryz.ntmps39
 go_wp2_with fail
 refine (SC.out _ (by first | exact Below.refl _ _ | exact below1 _ _)).mono ?_
 rintro e w2 ⟨hf, ht, hb2⟩
 have B2 : Hid (Below w.heap.size w w2) := hideP (by first | exact hb2 | exact below_more (below1 _ _) hb2 (by simp))
 have hcb : w2.heap[w.heap.size]? = some (.cells #[.int .i64 s0, .int .i64 s1, .int .i64 s2, .int .i64 s3, .int .i64 s4, .int .i64 s5, .int .i64 s6, .int .i64 s7] 45 (0, 0)) := (hb2.block _ (by simp)).trans (heap_alloc_new _ _)
 have c0 : w2.cell? ⟨w.heap.size, 0, none⟩ = some (.int .i64 s0) := by rw [cell_of_row w2 _ _ _ _ _ hcb]; rfl
 have c1 : w2.cell? ⟨w.heap.size, 1, none⟩ = some (.int .i64 s1) := by rw [cell_of_row w2 _ _ _ _ _ hcb]; rfl
 have c2 : w2.cell? ⟨w.heap.size, 2, none⟩ = some (.int .i64 s2) := by rw [cell_of_row w2 _ _ _ _ _ hcb]; rfl
 have c3 : w2.cell? ⟨w.heap.size, 3, none⟩ = some (.int .i64 s3) := by rw [cell_of_row w2 _ _ _ _ _ hcb]; rfl
 have c4 : w2.cell? ⟨w.heap.size, 4, none⟩ = some (.int .i64 s4) := by rw [cell_of_row w2 _ _ _ _ _ hcb]; rfl
 have c5 : w2.cell? ⟨w.heap.size, 5, none⟩ = some (.int .i64 s5) := by rw [cell_of_row w2 _ _ _ _ _ hcb]; rfl
 have c6 : w2.cell? ⟨w.heap.size, 6, none⟩ = some (.int .i64 s6) := by rw [cell_of_row w2 _ _ _ _ _ hcb]; rfl
 have c7 : w2.cell? ⟨w.heap.size, 7, none⟩ = some (.int .i64 s7) := by rw [cell_of_row w2 _ _ _ _ _ hcb]; rfl
 clear hcb
 clear hb2 SC
 cases ob with
 | false =>
  obtain ⟨u, rfl⟩ := hf rfl
  have HE : Hid (R = false) := hideP (by rw [HR'.out]; rfl)
  clear hf ht
  go_wp2
  exact bodyPost_ret (v := .tuple #[u, .bool false]) (by simp [results, Tryz.results39, go_sem]) rfl ⟨fun _ => ⟨_, rfl⟩, fun h => absurd (h.symm.trans HE.out) (by simp), B2.out⟩
 | true =>
  obtain ⟨u, rfl, hh⟩ := ht rfl
  obtain ⟨uu, uc, rfl, _⟩ := hh.hd.is
  obtain ⟨N, hN⟩ : ∃ N, N = (its xs).length := ⟨_, rfl⟩
  have HN := hideP hN
  have hNN : (its xs).length = N := hN.symm
  simp only [hNN] at hh HR' ⊢
  clear hNN hN
  have HH := hideP hh
  clear hf hh ht
  by_cases h4 : N ≤ 4000
  ·have h4i : (N : Int) ≤ 4000 := by omega
   have h4b : decide ((N : Int) ≤ 4000) = true := decide_eq_true h4i
   rw [h4b]
   rw [decide_eq_true h4] at HR'
   clear h4b
   go_wp2_with fail
   refine (SH.out _).mono ?_
   rintro e w3 ⟨rfl, hb3⟩
   have B3 : Hid (Below w.heap.size w w3) := hideP (below_more B2.out hb3 B2.out.size)
   have HH3 : Hid (HR w.heap.size w3 (.slice uu N uc) xs) := hideP ((HH.out.abv (Abv.below hb3)).mono (by first | exact Nat.le_refl _ | simp))
   clear hb3 HH
   cases sb with
   | false =>
    have HE : Hid (R = false) := hideP (by rw [HR'.out]; rfl)
    go_wp2
    exact bodyPost_ret (v := .tuple #[.slice uu N uc, .bool false]) (by simp [results, Tryz.results39, go_sem]) rfl ⟨fun _ => ⟨_, rfl⟩, fun h => absurd (h.symm.trans HE.out) (by simp), B3.out⟩
   | true =>
    by_cases hin : 0 ≤ f ∧ f ≤ t ∧ t ≤ (N : Int)
    ·obtain ⟨i1, i2, i3⟩ := hin
     obtain ⟨a, rfl⟩ : ∃ a : Nat, t = (a : Int) := ⟨t.toNat, by omega⟩
     have CI : Hid (Calls Tryz.prog 83 #[.slice uu N uc, .int .i64 (a : Int)] w3 fun e w' => e = .returned (.bool (pbB (its xs) a)) ∧ Below w3.heap.size w3 w') := hideP (specIs_any a HH3.out.hd HN.out.symm (by omega) (by omega))
     have HE : Hid (R = pbB (its xs) a) := hideP (by
      rw [HR'.out]
      unfold endsB
      rw [decide_eq_true (by rw [← HN.out]; exact ⟨i1, i2, i3⟩)]
      simp)
     obtain ⟨pb, hpb⟩ : ∃ pb, pb = pbB (its xs) a := ⟨_, rfl⟩
     rw [← hpb] at CI HE
     have j1 : decide (f < 0) = false := decide_eq_false (by omega)
     have j2 : decide ((a : Int) < f) = false := decide_eq_false (by omega)
     have j3 : decide (N < a) = false := decide_eq_false (by omega)
     have j3' : decide ((N : Int) < (a : Int)) = false := decide_eq_false (by omega)
     have j4 : (a : Int) ≤ 4000 := by omega
     have j5 : (0 : Int) ≤ (a : Int) := by omega
     clear hpb HR' i1 i2 i3
     go_wp2_with fail
     refine CI.out.mono ?_
     rintro e w4 ⟨rfl, hb4⟩
     have B4 : Hid (Below w.heap.size w w4) := hideP (below_more B3.out hb4 B3.out.size)
     have HH4 : Hid (HR w.heap.size w4 (.slice uu N uc) xs) := hideP (HH3.out.abv (Abv.below hb4))
     clear hb4
     go_wp2
     exact bodyPost_ret (v := .tuple #[.slice uu N uc, .bool pb]) (by simp [results, Tryz.results39, go_sem]) rfl ⟨fun h => ⟨_, by rw [← HE.out, h]⟩, fun h => ⟨_, by rw [← HE.out, h], HH4.out⟩, B4.out⟩
    ·have HE : Hid (R = false) := hideP (by
      rw [HR'.out]
      unfold endsB
      rw [decide_eq_false (by rw [← HN.out]; exact hin)]
      simp)
     by_cases j1 : f < 0
     ·have j1b : decide (f < 0) = true := decide_eq_true j1
      clear hin j1
      go_wp2
      exact bodyPost_ret (v := .tuple #[.slice uu N uc, .bool false]) (by simp [results, Tryz.results39, go_sem]) rfl ⟨fun _ => ⟨_, rfl⟩, fun h => absurd (h.symm.trans HE.out) (by simp), B3.out⟩
     ·by_cases j2 : f > t
      ·have j1b : decide (f < 0) = false := decide_eq_false j1
       have j2b : decide (t < f) = true := decide_eq_true (by omega)
       clear hin j1 j2
       go_wp2
       exact bodyPost_ret (v := .tuple #[.slice uu N uc, .bool false]) (by simp [results, Tryz.results39, go_sem]) rfl ⟨fun _ => ⟨_, rfl⟩, fun h => absurd (h.symm.trans HE.out) (by simp), B3.out⟩
      ·have j1b : decide (f < 0) = false := decide_eq_false j1
       have j2b : decide (t < f) = false := decide_eq_false (by omega)
       have j3 : decide ((N : Int) < t) = true := decide_eq_true (by omega)
       clear hin j1 j2
       go_wp2
       exact bodyPost_ret (v := .tuple #[.slice uu N uc, .bool false]) (by simp [results, Tryz.results39, go_sem]) rfl ⟨fun _ => ⟨_, rfl⟩, fun h => absurd (h.symm.trans HE.out) (by simp), B3.out⟩
  ·have h4i : ¬ (N : Int) ≤ 4000 := by omega
   have h4b : decide ((N : Int) ≤ 4000) = false := decide_eq_false h4i
   rw [h4b]
   have HE : Hid (R = false) := hideP (by rw [HR'.out, decide_eq_false h4]; simp)
   clear h4b
   go_wp2
   exact bodyPost_ret (v := .tuple #[.slice uu N uc, .bool false]) (by simp [results, Tryz.results39, go_sem]) rfl ⟨fun _ => ⟨_, rfl⟩, fun h => absurd (h.symm.trans HE.out) (by simp), B2.out⟩
end Go.Proofs.YtlohbaoigfaneaaGreat
