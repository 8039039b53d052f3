import Derived.Test.YtlohbaoigfaneaaGreatLrw
namespace Go.Proofs.YtlohbaoigfaneaaGreat
open Go.RowKit
set_option linter.unusedVariables false
set_option linter.unusedSimpArgs false
set_option maxHeartbeats 4000000 in
theorem st_3 (wd nw hg tl ln hy du ad l0 l1 l2 l3 l4 r0 r1 r2 r3 r4 f0 f1 f2 f3 f4 : Int) (w : World) (h_wd : uptoB wd 1073741823 = false) (h_tl : uptoB tl 10000 = true) (h_ln : uptoB ln 10000 = false) (h_du : uptoB du 1000000 = false) :
 Calls Tryz.prog 65 #[.agg #[.int .i64 wd, .int .i64 nw, .int .i64 hg, .int .i64 tl, .int .i64 ln, .int .i64 hy, .int .i64 du, .int .i64 ad, .int .i64 l0, .int .i64 l1, .int .i64 l2, .int .i64 l3, .int .i64 l4, .int .i64 r0, .int .i64 r1, .int .i64 r2, .int .i64 r3, .int .i64 r4, .int .i64 f0, .int .i64 f1, .int .i64 f2, .int .i64 f3, .int .i64 f4]] w fun e w' => e = .returned (.bool false) ∧ Below w.heap.size w w' := by
 go_enter Tryz.func65, Tryz.ntmps65
 go_wp2_with (go_at_call 50; refine (upTo_any _ _ _).mono ?_; rintro e w' ⟨rfl, rfl⟩)
 go_ret
 exact ⟨rfl, below1 _ _⟩
set_option maxHeartbeats 4000000 in
theorem st_7 (wd nw hg tl ln hy du ad l0 l1 l2 l3 l4 r0 r1 r2 r3 r4 f0 f1 f2 f3 f4 : Int) (w : World) (h_wd : uptoB wd 1073741823 = false) (h_tl : uptoB tl 10000 = true) (h_ln : uptoB ln 10000 = true) (h_hy : uptoB hy 10000 = false) (h_du : uptoB du 1000000 = true) (h_ad : uptoB ad 1000000 = false) :
 Calls Tryz.prog 65 #[.agg #[.int .i64 wd, .int .i64 nw, .int .i64 hg, .int .i64 tl, .int .i64 ln, .int .i64 hy, .int .i64 du, .int .i64 ad, .int .i64 l0, .int .i64 l1, .int .i64 l2, .int .i64 l3, .int .i64 l4, .int .i64 r0, .int .i64 r1, .int .i64 r2, .int .i64 r3, .int .i64 r4, .int .i64 f0, .int .i64 f1, .int .i64 f2, .int .i64 f3, .int .i64 f4]] w fun e w' => e = .returned (.bool false) ∧ Below w.heap.size w w' := by
 go_enter Tryz.func65, Tryz.ntmps65
 go_wp2_with (go_at_call 50; refine (upTo_any _ _ _).mono ?_; rintro e w' ⟨rfl, rfl⟩)
 go_ret
 exact ⟨rfl, below1 _ _⟩
set_option maxHeartbeats 4000000 in
theorem st_11 (wd nw hg tl ln hy du ad l0 l1 l2 l3 l4 r0 r1 r2 r3 r4 f0 f1 f2 f3 f4 : Int) (w : World) (h_wd : uptoB wd 1073741823 = false) (h_tl : uptoB tl 10000 = true) (h_ln : uptoB ln 10000 = true) (h_hy : uptoB hy 10000 = true) (h_du : uptoB du 1000000 = true) (h_ad : uptoB ad 1000000 = true) :
 Calls Tryz.prog 65 #[.agg #[.int .i64 wd, .int .i64 nw, .int .i64 hg, .int .i64 tl, .int .i64 ln, .int .i64 hy, .int .i64 du, .int .i64 ad, .int .i64 l0, .int .i64 l1, .int .i64 l2, .int .i64 l3, .int .i64 l4, .int .i64 r0, .int .i64 r1, .int .i64 r2, .int .i64 r3, .int .i64 r4, .int .i64 f0, .int .i64 f1, .int .i64 f2, .int .i64 f3, .int .i64 f4]] w fun e w' => e = .returned (.bool false) ∧ Below w.heap.size w w' := by
 go_enter Tryz.func65, Tryz.ntmps65
 go_wp2_with (go_at_call 50; refine (upTo_any _ _ _).mono ?_; rintro e w' ⟨rfl, rfl⟩)
 go_ret
 exact ⟨rfl, below1 _ _⟩
set_option maxHeartbeats 4000000 in
theorem st_15 (wd nw hg tl ln hy du ad l0 l1 l2 l3 l4 r0 r1 r2 r3 r4 f0 f1 f2 f3 f4 : Int) (w : World) (h_wd : uptoB wd 1073741823 = true) (h_nw : uptoB nw 1073741823 = false) (h_tl : uptoB tl 10000 = true) (h_ln : uptoB ln 10000 = false) (h_du : uptoB du 1000000 = false) :
 Calls Tryz.prog 65 #[.agg #[.int .i64 wd, .int .i64 nw, .int .i64 hg, .int .i64 tl, .int .i64 ln, .int .i64 hy, .int .i64 du, .int .i64 ad, .int .i64 l0, .int .i64 l1, .int .i64 l2, .int .i64 l3, .int .i64 l4, .int .i64 r0, .int .i64 r1, .int .i64 r2, .int .i64 r3, .int .i64 r4, .int .i64 f0, .int .i64 f1, .int .i64 f2, .int .i64 f3, .int .i64 f4]] w fun e w' => e = .returned (.bool false) ∧ Below w.heap.size w w' := by
 go_enter Tryz.func65, Tryz.ntmps65
 go_wp2_with (go_at_call 50; refine (upTo_any _ _ _).mono ?_; rintro e w' ⟨rfl, rfl⟩)
 go_ret
 exact ⟨rfl, below1 _ _⟩
set_option maxHeartbeats 4000000 in
theorem st_19 (wd nw hg tl ln hy du ad l0 l1 l2 l3 l4 r0 r1 r2 r3 r4 f0 f1 f2 f3 f4 : Int) (w : World) (h_wd : uptoB wd 1073741823 = true) (h_nw : uptoB nw 1073741823 = false) (h_tl : uptoB tl 10000 = true) (h_ln : uptoB ln 10000 = true) (h_hy : uptoB hy 10000 = false) (h_du : uptoB du 1000000 = true) (h_ad : uptoB ad 1000000 = false) :
 Calls Tryz.prog 65 #[.agg #[.int .i64 wd, .int .i64 nw, .int .i64 hg, .int .i64 tl, .int .i64 ln, .int .i64 hy, .int .i64 du, .int .i64 ad, .int .i64 l0, .int .i64 l1, .int .i64 l2, .int .i64 l3, .int .i64 l4, .int .i64 r0, .int .i64 r1, .int .i64 r2, .int .i64 r3, .int .i64 r4, .int .i64 f0, .int .i64 f1, .int .i64 f2, .int .i64 f3, .int .i64 f4]] w fun e w' => e = .returned (.bool false) ∧ Below w.heap.size w w' := by
 go_enter Tryz.func65, Tryz.ntmps65
 go_wp2_with (go_at_call 50; refine (upTo_any _ _ _).mono ?_; rintro e w' ⟨rfl, rfl⟩)
 go_ret
 exact ⟨rfl, below1 _ _⟩
set_option maxHeartbeats 4000000 in
theorem st_23 (wd nw hg tl ln hy du ad l0 l1 l2 l3 l4 r0 r1 r2 r3 r4 f0 f1 f2 f3 f4 : Int) (w : World) (h_wd : uptoB wd 1073741823 = true) (h_nw : uptoB nw 1073741823 = false) (h_tl : uptoB tl 10000 = true) (h_ln : uptoB ln 10000 = true) (h_hy : uptoB hy 10000 = true) (h_du : uptoB du 1000000 = true) (h_ad : uptoB ad 1000000 = true) :
 Calls Tryz.prog 65 #[.agg #[.int .i64 wd, .int .i64 nw, .int .i64 hg, .int .i64 tl, .int .i64 ln, .int .i64 hy, .int .i64 du, .int .i64 ad, .int .i64 l0, .int .i64 l1, .int .i64 l2, .int .i64 l3, .int .i64 l4, .int .i64 r0, .int .i64 r1, .int .i64 r2, .int .i64 r3, .int .i64 r4, .int .i64 f0, .int .i64 f1, .int .i64 f2, .int .i64 f3, .int .i64 f4]] w fun e w' => e = .returned (.bool false) ∧ Below w.heap.size w w' := by
 go_enter Tryz.func65, Tryz.ntmps65
 go_wp2_with (go_at_call 50; refine (upTo_any _ _ _).mono ?_; rintro e w' ⟨rfl, rfl⟩)
 go_ret
 exact ⟨rfl, below1 _ _⟩
set_option maxHeartbeats 4000000 in
theorem st_27 (wd nw hg tl ln hy du ad l0 l1 l2 l3 l4 r0 r1 r2 r3 r4 f0 f1 f2 f3 f4 : Int) (w : World) (h_wd : uptoB wd 1073741823 = true) (h_nw : uptoB nw 1073741823 = true) (h_hg : uptoB hg 4 = false) (h_tl : uptoB tl 10000 = true) (h_ln : uptoB ln 10000 = false) (h_du : uptoB du 1000000 = false) :
 Calls Tryz.prog 65 #[.agg #[.int .i64 wd, .int .i64 nw, .int .i64 hg, .int .i64 tl, .int .i64 ln, .int .i64 hy, .int .i64 du, .int .i64 ad, .int .i64 l0, .int .i64 l1, .int .i64 l2, .int .i64 l3, .int .i64 l4, .int .i64 r0, .int .i64 r1, .int .i64 r2, .int .i64 r3, .int .i64 r4, .int .i64 f0, .int .i64 f1, .int .i64 f2, .int .i64 f3, .int .i64 f4]] w fun e w' => e = .returned (.bool false) ∧ Below w.heap.size w w' := by
 go_enter Tryz.func65, Tryz.ntmps65
 go_wp2_with (go_at_call 50; refine (upTo_any _ _ _).mono ?_; rintro e w' ⟨rfl, rfl⟩)
 go_ret
 exact ⟨rfl, below1 _ _⟩
set_option maxHeartbeats 4000000 in
theorem st_31 (wd nw hg tl ln hy du ad l0 l1 l2 l3 l4 r0 r1 r2 r3 r4 f0 f1 f2 f3 f4 : Int) (w : World) (h_wd : uptoB wd 1073741823 = true) (h_nw : uptoB nw 1073741823 = true) (h_hg : uptoB hg 4 = false) (h_tl : uptoB tl 10000 = true) (h_ln : uptoB ln 10000 = true) (h_hy : uptoB hy 10000 = false) (h_du : uptoB du 1000000 = true) (h_ad : uptoB ad 1000000 = false) :
 Calls Tryz.prog 65 #[.agg #[.int .i64 wd, .int .i64 nw, .int .i64 hg, .int .i64 tl, .int .i64 ln, .int .i64 hy, .int .i64 du, .int .i64 ad, .int .i64 l0, .int .i64 l1, .int .i64 l2, .int .i64 l3, .int .i64 l4, .int .i64 r0, .int .i64 r1, .int .i64 r2, .int .i64 r3, .int .i64 r4, .int .i64 f0, .int .i64 f1, .int .i64 f2, .int .i64 f3, .int .i64 f4]] w fun e w' => e = .returned (.bool false) ∧ Below w.heap.size w w' := by
 go_enter Tryz.func65, Tryz.ntmps65
 go_wp2_with (go_at_call 50; refine (upTo_any _ _ _).mono ?_; rintro e w' ⟨rfl, rfl⟩)
 go_ret
 exact ⟨rfl, below1 _ _⟩
set_option maxHeartbeats 4000000 in
theorem st_35 (wd nw hg tl ln hy du ad l0 l1 l2 l3 l4 r0 r1 r2 r3 r4 f0 f1 f2 f3 f4 : Int) (w : World) (h_wd : uptoB wd 1073741823 = true) (h_nw : uptoB nw 1073741823 = true) (h_hg : uptoB hg 4 = false) (h_tl : uptoB tl 10000 = true) (h_ln : uptoB ln 10000 = true) (h_hy : uptoB hy 10000 = true) (h_du : uptoB du 1000000 = true) (h_ad : uptoB ad 1000000 = true) :
 Calls Tryz.prog 65 #[.agg #[.int .i64 wd, .int .i64 nw, .int .i64 hg, .int .i64 tl, .int .i64 ln, .int .i64 hy, .int .i64 du, .int .i64 ad, .int .i64 l0, .int .i64 l1, .int .i64 l2, .int .i64 l3, .int .i64 l4, .int .i64 r0, .int .i64 r1, .int .i64 r2, .int .i64 r3, .int .i64 r4, .int .i64 f0, .int .i64 f1, .int .i64 f2, .int .i64 f3, .int .i64 f4]] w fun e w' => e = .returned (.bool false) ∧ Below w.heap.size w w' := by
 go_enter Tryz.func65, Tryz.ntmps65
 go_wp2_with (go_at_call 50; refine (upTo_any _ _ _).mono ?_; rintro e w' ⟨rfl, rfl⟩)
 go_ret
 exact ⟨rfl, below1 _ _⟩
set_option maxHeartbeats 4000000 in
theorem st_39 (wd nw hg tl ln hy du ad l0 l1 l2 l3 l4 r0 r1 r2 r3 r4 f0 f1 f2 f3 f4 : Int) (w : World) (h_wd : uptoB wd 1073741823 = true) (h_nw : uptoB nw 1073741823 = true) (h_hg : uptoB hg 4 = true) (h_tl : uptoB tl 10000 = true) (h_ln : uptoB ln 10000 = false) (h_du : uptoB du 1000000 = false) :
 Calls Tryz.prog 65 #[.agg #[.int .i64 wd, .int .i64 nw, .int .i64 hg, .int .i64 tl, .int .i64 ln, .int .i64 hy, .int .i64 du, .int .i64 ad, .int .i64 l0, .int .i64 l1, .int .i64 l2, .int .i64 l3, .int .i64 l4, .int .i64 r0, .int .i64 r1, .int .i64 r2, .int .i64 r3, .int .i64 r4, .int .i64 f0, .int .i64 f1, .int .i64 f2, .int .i64 f3, .int .i64 f4]] w fun e w' => e = .returned (.bool false) ∧ Below w.heap.size w w' := by
 go_enter Tryz.func65, Tryz.ntmps65
 go_wp2_with (go_at_call 50; refine (upTo_any _ _ _).mono ?_; rintro e w' ⟨rfl, rfl⟩)
 go_ret
 exact ⟨rfl, below1 _ _⟩
set_option maxHeartbeats 4000000 in
theorem st_43 (wd nw hg tl ln hy du ad l0 l1 l2 l3 l4 r0 r1 r2 r3 r4 f0 f1 f2 f3 f4 : Int) (w : World) (h_wd : uptoB wd 1073741823 = true) (h_nw : uptoB nw 1073741823 = true) (h_hg : uptoB hg 4 = true) (h_tl : uptoB tl 10000 = true) (h_ln : uptoB ln 10000 = true) (h_hy : uptoB hy 10000 = false) (h_du : uptoB du 1000000 = true) (h_ad : uptoB ad 1000000 = false) :
 Calls Tryz.prog 65 #[.agg #[.int .i64 wd, .int .i64 nw, .int .i64 hg, .int .i64 tl, .int .i64 ln, .int .i64 hy, .int .i64 du, .int .i64 ad, .int .i64 l0, .int .i64 l1, .int .i64 l2, .int .i64 l3, .int .i64 l4, .int .i64 r0, .int .i64 r1, .int .i64 r2, .int .i64 r3, .int .i64 r4, .int .i64 f0, .int .i64 f1, .int .i64 f2, .int .i64 f3, .int .i64 f4]] w fun e w' => e = .returned (.bool false) ∧ Below w.heap.size w w' := by
 go_enter Tryz.func65, Tryz.ntmps65
 go_wp2_with (go_at_call 50; refine (upTo_any _ _ _).mono ?_; rintro e w' ⟨rfl, rfl⟩)
 go_ret
 exact ⟨rfl, below1 _ _⟩
set_option maxHeartbeats 4000000 in
theorem st_47 (wd nw hg tl ln hy du ad l0 l1 l2 l3 l4 r0 r1 r2 r3 r4 f0 f1 f2 f3 f4 : Int) (w : World) (h_wd : uptoB wd 1073741823 = true) (h_nw : uptoB nw 1073741823 = true) (h_hg : uptoB hg 4 = true) (h_tl : uptoB tl 10000 = true) (h_ln : uptoB ln 10000 = true) (h_hy : uptoB hy 10000 = true) (h_du : uptoB du 1000000 = true) (h_ad : uptoB ad 1000000 = true) :
 Calls Tryz.prog 65 #[.agg #[.int .i64 wd, .int .i64 nw, .int .i64 hg, .int .i64 tl, .int .i64 ln, .int .i64 hy, .int .i64 du, .int .i64 ad, .int .i64 l0, .int .i64 l1, .int .i64 l2, .int .i64 l3, .int .i64 l4, .int .i64 r0, .int .i64 r1, .int .i64 r2, .int .i64 r3, .int .i64 r4, .int .i64 f0, .int .i64 f1, .int .i64 f2, .int .i64 f3, .int .i64 f4]] w fun e w' => e = .returned (.bool (glB l0 l1 l2 l3 l4 && glB r0 r1 r2 r3 r4 && glB f0 f1 f2 f3 f4)) ∧ Below w.heap.size w w' := by
 go_enter Tryz.func65, Tryz.ntmps65
 go_wp2_with (go_at_call 50; refine (upTo_any _ _ _).mono ?_; rintro e w' ⟨rfl, rfl⟩)
 refine (implGlueOk_any _ _ _ _ _ _).mono ?_
 rintro e w1 ⟨rfl, hb1⟩
 have hs1 : w.heap.size < w1.heap.size := by have := hb1.size; simp at this; omega
 have B1 : Hid (Below w.heap.size w w1) := hideP (below_more (below1 _ _) hb1 (by simp))
 obtain ⟨hc1, hf1⟩ := bcell hb1
 try simp only [World.size_alloc] at hc1 hf1
 clear hb1
 cases g1 : glB l0 l1 l2 l3 l4
 ·go_wp2
  go_ret
  exact ⟨retB (by simp [g1]), B1.out⟩
 ·go_wp2_with fail
  refine (implGlueOk_any _ _ _ _ _ _).mono ?_
  rintro e w2 ⟨rfl, hb2⟩
  have hs2 : w.heap.size < w2.heap.size := by have := hb2.size; omega
  have B2 : Hid (Below w.heap.size w w2) := hideP (below_more B1.out hb2 B1.out.size)
  obtain ⟨hc2, hf2⟩ := bcell hb2
  try simp only [World.size_alloc] at hc2 hf2
  clear hb2
  cases g2 : glB r0 r1 r2 r3 r4
  ·go_wp2
   go_ret
   exact ⟨retB (by simp [g1, g2]), B2.out⟩
  ·go_wp2_with fail
   refine (implGlueOk_any _ _ _ _ _ _).mono ?_
   rintro e w3 ⟨rfl, hb3⟩
   have hs3 : w.heap.size < w3.heap.size := by have := hb3.size; omega
   have B3 : Hid (Below w.heap.size w w3) := hideP (below_more B2.out hb3 B2.out.size)
   obtain ⟨hc3, hf3⟩ := bcell hb3
   try simp only [World.size_alloc] at hc3 hf3
   clear hb3
   cases g3 : glB f0 f1 f2 f3 f4
   ·go_wp2
    go_ret
    exact ⟨retB (by simp [g1, g2, g3]), B3.out⟩
   ·go_wp2
    go_ret
    exact ⟨retB (by simp [g1, g2, g3]), B3.out⟩
end Go.Proofs.YtlohbaoigfaneaaGreat
