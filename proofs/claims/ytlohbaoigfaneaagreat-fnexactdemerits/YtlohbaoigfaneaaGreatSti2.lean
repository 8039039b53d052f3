import Derived.Test.YtlohbaoigfaneaaGreatLrw
namespace Go.Proofs.YtlohbaoigfaneaaGreat
open Go.RowKit
set_option linter.unusedVariables false
set_option linter.unusedSimpArgs false
set_option maxHeartbeats 4000000 in
theorem st_1 (wd nw hg tl ln hy du ad l0 l1 l2 l3 l4 r0 r1 r2 r3 r4 f0 f1 f2 f3 f4 : Int) (w : World) (h_wd : uptoB wd 1073741823 = false) (h_tl : uptoB tl 10000 = false) (h_du : uptoB du 1000000 = true) (h_ad : uptoB ad 1000000 = false) :
 Calls Tryz.prog 65 #[.agg #[.int .i64 wd, .int .i64 nw, .int .i64 hg, .int .i64 tl, .int .i64 ln, .int .i64 hy, .int .i64 du, .int .i64 ad, .int .i64 l0, .int .i64 l1, .int .i64 l2, .int .i64 l3, .int .i64 l4, .int .i64 r0, .int .i64 r1, .int .i64 r2, .int .i64 r3, .int .i64 r4, .int .i64 f0, .int .i64 f1, .int .i64 f2, .int .i64 f3, .int .i64 f4]] w fun e w' => e = .returned (.bool false) ∧ Below w.heap.size w w' := by
 go_enter Tryz.func65, Tryz.ntmps65
 go_wp2_with (go_at_call 50; refine (upTo_any _ _ _).mono ?_; rintro e w' ⟨rfl, rfl⟩)
 go_ret
 exact ⟨rfl, below1 _ _⟩
set_option maxHeartbeats 4000000 in
theorem st_5 (wd nw hg tl ln hy du ad l0 l1 l2 l3 l4 r0 r1 r2 r3 r4 f0 f1 f2 f3 f4 : Int) (w : World) (h_wd : uptoB wd 1073741823 = false) (h_tl : uptoB tl 10000 = true) (h_ln : uptoB ln 10000 = false) (h_du : uptoB du 1000000 = true) (h_ad : uptoB ad 1000000 = true) :
 Calls Tryz.prog 65 #[.agg #[.int .i64 wd, .int .i64 nw, .int .i64 hg, .int .i64 tl, .int .i64 ln, .int .i64 hy, .int .i64 du, .int .i64 ad, .int .i64 l0, .int .i64 l1, .int .i64 l2, .int .i64 l3, .int .i64 l4, .int .i64 r0, .int .i64 r1, .int .i64 r2, .int .i64 r3, .int .i64 r4, .int .i64 f0, .int .i64 f1, .int .i64 f2, .int .i64 f3, .int .i64 f4]] w fun e w' => e = .returned (.bool false) ∧ Below w.heap.size w w' := by
 go_enter Tryz.func65, Tryz.ntmps65
 go_wp2_with (go_at_call 50; refine (upTo_any _ _ _).mono ?_; rintro e w' ⟨rfl, rfl⟩)
 go_ret
 exact ⟨rfl, below1 _ _⟩
set_option maxHeartbeats 4000000 in
theorem st_9 (wd nw hg tl ln hy du ad l0 l1 l2 l3 l4 r0 r1 r2 r3 r4 f0 f1 f2 f3 f4 : Int) (w : World) (h_wd : uptoB wd 1073741823 = false) (h_tl : uptoB tl 10000 = true) (h_ln : uptoB ln 10000 = true) (h_hy : uptoB hy 10000 = true) (h_du : uptoB du 1000000 = false) :
 Calls Tryz.prog 65 #[.agg #[.int .i64 wd, .int .i64 nw, .int .i64 hg, .int .i64 tl, .int .i64 ln, .int .i64 hy, .int .i64 du, .int .i64 ad, .int .i64 l0, .int .i64 l1, .int .i64 l2, .int .i64 l3, .int .i64 l4, .int .i64 r0, .int .i64 r1, .int .i64 r2, .int .i64 r3, .int .i64 r4, .int .i64 f0, .int .i64 f1, .int .i64 f2, .int .i64 f3, .int .i64 f4]] w fun e w' => e = .returned (.bool false) ∧ Below w.heap.size w w' := by
 go_enter Tryz.func65, Tryz.ntmps65
 go_wp2_with (go_at_call 50; refine (upTo_any _ _ _).mono ?_; rintro e w' ⟨rfl, rfl⟩)
 go_ret
 exact ⟨rfl, below1 _ _⟩
set_option maxHeartbeats 4000000 in
theorem st_13 (wd nw hg tl ln hy du ad l0 l1 l2 l3 l4 r0 r1 r2 r3 r4 f0 f1 f2 f3 f4 : Int) (w : World) (h_wd : uptoB wd 1073741823 = true) (h_nw : uptoB nw 1073741823 = false) (h_tl : uptoB tl 10000 = false) (h_du : uptoB du 1000000 = true) (h_ad : uptoB ad 1000000 = false) :
 Calls Tryz.prog 65 #[.agg #[.int .i64 wd, .int .i64 nw, .int .i64 hg, .int .i64 tl, .int .i64 ln, .int .i64 hy, .int .i64 du, .int .i64 ad, .int .i64 l0, .int .i64 l1, .int .i64 l2, .int .i64 l3, .int .i64 l4, .int .i64 r0, .int .i64 r1, .int .i64 r2, .int .i64 r3, .int .i64 r4, .int .i64 f0, .int .i64 f1, .int .i64 f2, .int .i64 f3, .int .i64 f4]] w fun e w' => e = .returned (.bool false) ∧ Below w.heap.size w w' := by
 go_enter Tryz.func65, Tryz.ntmps65
 go_wp2_with (go_at_call 50; refine (upTo_any _ _ _).mono ?_; rintro e w' ⟨rfl, rfl⟩)
 go_ret
 exact ⟨rfl, below1 _ _⟩
set_option maxHeartbeats 4000000 in
theorem st_17 (wd nw hg tl ln hy du ad l0 l1 l2 l3 l4 r0 r1 r2 r3 r4 f0 f1 f2 f3 f4 : Int) (w : World) (h_wd : uptoB wd 1073741823 = true) (h_nw : uptoB nw 1073741823 = false) (h_tl : uptoB tl 10000 = true) (h_ln : uptoB ln 10000 = false) (h_du : uptoB du 1000000 = true) (h_ad : uptoB ad 1000000 = true) :
 Calls Tryz.prog 65 #[.agg #[.int .i64 wd, .int .i64 nw, .int .i64 hg, .int .i64 tl, .int .i64 ln, .int .i64 hy, .int .i64 du, .int .i64 ad, .int .i64 l0, .int .i64 l1, .int .i64 l2, .int .i64 l3, .int .i64 l4, .int .i64 r0, .int .i64 r1, .int .i64 r2, .int .i64 r3, .int .i64 r4, .int .i64 f0, .int .i64 f1, .int .i64 f2, .int .i64 f3, .int .i64 f4]] w fun e w' => e = .returned (.bool false) ∧ Below w.heap.size w w' := by
 go_enter Tryz.func65, Tryz.ntmps65
 go_wp2_with (go_at_call 50; refine (upTo_any _ _ _).mono ?_; rintro e w' ⟨rfl, rfl⟩)
 go_ret
 exact ⟨rfl, below1 _ _⟩
set_option maxHeartbeats 4000000 in
theorem st_21 (wd nw hg tl ln hy du ad l0 l1 l2 l3 l4 r0 r1 r2 r3 r4 f0 f1 f2 f3 f4 : Int) (w : World) (h_wd : uptoB wd 1073741823 = true) (h_nw : uptoB nw 1073741823 = false) (h_tl : uptoB tl 10000 = true) (h_ln : uptoB ln 10000 = true) (h_hy : uptoB hy 10000 = true) (h_du : uptoB du 1000000 = false) :
 Calls Tryz.prog 65 #[.agg #[.int .i64 wd, .int .i64 nw, .int .i64 hg, .int .i64 tl, .int .i64 ln, .int .i64 hy, .int .i64 du, .int .i64 ad, .int .i64 l0, .int .i64 l1, .int .i64 l2, .int .i64 l3, .int .i64 l4, .int .i64 r0, .int .i64 r1, .int .i64 r2, .int .i64 r3, .int .i64 r4, .int .i64 f0, .int .i64 f1, .int .i64 f2, .int .i64 f3, .int .i64 f4]] w fun e w' => e = .returned (.bool false) ∧ Below w.heap.size w w' := by
 go_enter Tryz.func65, Tryz.ntmps65
 go_wp2_with (go_at_call 50; refine (upTo_any _ _ _).mono ?_; rintro e w' ⟨rfl, rfl⟩)
 go_ret
 exact ⟨rfl, below1 _ _⟩
set_option maxHeartbeats 4000000 in
theorem st_25 (wd nw hg tl ln hy du ad l0 l1 l2 l3 l4 r0 r1 r2 r3 r4 f0 f1 f2 f3 f4 : Int) (w : World) (h_wd : uptoB wd 1073741823 = true) (h_nw : uptoB nw 1073741823 = true) (h_hg : uptoB hg 4 = false) (h_tl : uptoB tl 10000 = false) (h_du : uptoB du 1000000 = true) (h_ad : uptoB ad 1000000 = false) :
 Calls Tryz.prog 65 #[.agg #[.int .i64 wd, .int .i64 nw, .int .i64 hg, .int .i64 tl, .int .i64 ln, .int .i64 hy, .int .i64 du, .int .i64 ad, .int .i64 l0, .int .i64 l1, .int .i64 l2, .int .i64 l3, .int .i64 l4, .int .i64 r0, .int .i64 r1, .int .i64 r2, .int .i64 r3, .int .i64 r4, .int .i64 f0, .int .i64 f1, .int .i64 f2, .int .i64 f3, .int .i64 f4]] w fun e w' => e = .returned (.bool false) ∧ Below w.heap.size w w' := by
 go_enter Tryz.func65, Tryz.ntmps65
 go_wp2_with (go_at_call 50; refine (upTo_any _ _ _).mono ?_; rintro e w' ⟨rfl, rfl⟩)
 go_ret
 exact ⟨rfl, below1 _ _⟩
set_option maxHeartbeats 4000000 in
theorem st_29 (wd nw hg tl ln hy du ad l0 l1 l2 l3 l4 r0 r1 r2 r3 r4 f0 f1 f2 f3 f4 : Int) (w : World) (h_wd : uptoB wd 1073741823 = true) (h_nw : uptoB nw 1073741823 = true) (h_hg : uptoB hg 4 = false) (h_tl : uptoB tl 10000 = true) (h_ln : uptoB ln 10000 = false) (h_du : uptoB du 1000000 = true) (h_ad : uptoB ad 1000000 = true) :
 Calls Tryz.prog 65 #[.agg #[.int .i64 wd, .int .i64 nw, .int .i64 hg, .int .i64 tl, .int .i64 ln, .int .i64 hy, .int .i64 du, .int .i64 ad, .int .i64 l0, .int .i64 l1, .int .i64 l2, .int .i64 l3, .int .i64 l4, .int .i64 r0, .int .i64 r1, .int .i64 r2, .int .i64 r3, .int .i64 r4, .int .i64 f0, .int .i64 f1, .int .i64 f2, .int .i64 f3, .int .i64 f4]] w fun e w' => e = .returned (.bool false) ∧ Below w.heap.size w w' := by
 go_enter Tryz.func65, Tryz.ntmps65
 go_wp2_with (go_at_call 50; refine (upTo_any _ _ _).mono ?_; rintro e w' ⟨rfl, rfl⟩)
 go_ret
 exact ⟨rfl, below1 _ _⟩
set_option maxHeartbeats 4000000 in
theorem st_33 (wd nw hg tl ln hy du ad l0 l1 l2 l3 l4 r0 r1 r2 r3 r4 f0 f1 f2 f3 f4 : Int) (w : World) (h_wd : uptoB wd 1073741823 = true) (h_nw : uptoB nw 1073741823 = true) (h_hg : uptoB hg 4 = false) (h_tl : uptoB tl 10000 = true) (h_ln : uptoB ln 10000 = true) (h_hy : uptoB hy 10000 = true) (h_du : uptoB du 1000000 = false) :
 Calls Tryz.prog 65 #[.agg #[.int .i64 wd, .int .i64 nw, .int .i64 hg, .int .i64 tl, .int .i64 ln, .int .i64 hy, .int .i64 du, .int .i64 ad, .int .i64 l0, .int .i64 l1, .int .i64 l2, .int .i64 l3, .int .i64 l4, .int .i64 r0, .int .i64 r1, .int .i64 r2, .int .i64 r3, .int .i64 r4, .int .i64 f0, .int .i64 f1, .int .i64 f2, .int .i64 f3, .int .i64 f4]] w fun e w' => e = .returned (.bool false) ∧ Below w.heap.size w w' := by
 go_enter Tryz.func65, Tryz.ntmps65
 go_wp2_with (go_at_call 50; refine (upTo_any _ _ _).mono ?_; rintro e w' ⟨rfl, rfl⟩)
 go_ret
 exact ⟨rfl, below1 _ _⟩
set_option maxHeartbeats 4000000 in
theorem st_37 (wd nw hg tl ln hy du ad l0 l1 l2 l3 l4 r0 r1 r2 r3 r4 f0 f1 f2 f3 f4 : Int) (w : World) (h_wd : uptoB wd 1073741823 = true) (h_nw : uptoB nw 1073741823 = true) (h_hg : uptoB hg 4 = true) (h_tl : uptoB tl 10000 = false) (h_du : uptoB du 1000000 = true) (h_ad : uptoB ad 1000000 = false) :
 Calls Tryz.prog 65 #[.agg #[.int .i64 wd, .int .i64 nw, .int .i64 hg, .int .i64 tl, .int .i64 ln, .int .i64 hy, .int .i64 du, .int .i64 ad, .int .i64 l0, .int .i64 l1, .int .i64 l2, .int .i64 l3, .int .i64 l4, .int .i64 r0, .int .i64 r1, .int .i64 r2, .int .i64 r3, .int .i64 r4, .int .i64 f0, .int .i64 f1, .int .i64 f2, .int .i64 f3, .int .i64 f4]] w fun e w' => e = .returned (.bool false) ∧ Below w.heap.size w w' := by
 go_enter Tryz.func65, Tryz.ntmps65
 go_wp2_with (go_at_call 50; refine (upTo_any _ _ _).mono ?_; rintro e w' ⟨rfl, rfl⟩)
 go_ret
 exact ⟨rfl, below1 _ _⟩
set_option maxHeartbeats 4000000 in
theorem st_41 (wd nw hg tl ln hy du ad l0 l1 l2 l3 l4 r0 r1 r2 r3 r4 f0 f1 f2 f3 f4 : Int) (w : World) (h_wd : uptoB wd 1073741823 = true) (h_nw : uptoB nw 1073741823 = true) (h_hg : uptoB hg 4 = true) (h_tl : uptoB tl 10000 = true) (h_ln : uptoB ln 10000 = false) (h_du : uptoB du 1000000 = true) (h_ad : uptoB ad 1000000 = true) :
 Calls Tryz.prog 65 #[.agg #[.int .i64 wd, .int .i64 nw, .int .i64 hg, .int .i64 tl, .int .i64 ln, .int .i64 hy, .int .i64 du, .int .i64 ad, .int .i64 l0, .int .i64 l1, .int .i64 l2, .int .i64 l3, .int .i64 l4, .int .i64 r0, .int .i64 r1, .int .i64 r2, .int .i64 r3, .int .i64 r4, .int .i64 f0, .int .i64 f1, .int .i64 f2, .int .i64 f3, .int .i64 f4]] w fun e w' => e = .returned (.bool false) ∧ Below w.heap.size w w' := by
 go_enter Tryz.func65, Tryz.ntmps65
 go_wp2_with (go_at_call 50; refine (upTo_any _ _ _).mono ?_; rintro e w' ⟨rfl, rfl⟩)
 go_ret
 exact ⟨rfl, below1 _ _⟩
set_option maxHeartbeats 4000000 in
theorem st_45 (wd nw hg tl ln hy du ad l0 l1 l2 l3 l4 r0 r1 r2 r3 r4 f0 f1 f2 f3 f4 : Int) (w : World) (h_wd : uptoB wd 1073741823 = true) (h_nw : uptoB nw 1073741823 = true) (h_hg : uptoB hg 4 = true) (h_tl : uptoB tl 10000 = true) (h_ln : uptoB ln 10000 = true) (h_hy : uptoB hy 10000 = true) (h_du : uptoB du 1000000 = false) :
 Calls Tryz.prog 65 #[.agg #[.int .i64 wd, .int .i64 nw, .int .i64 hg, .int .i64 tl, .int .i64 ln, .int .i64 hy, .int .i64 du, .int .i64 ad, .int .i64 l0, .int .i64 l1, .int .i64 l2, .int .i64 l3, .int .i64 l4, .int .i64 r0, .int .i64 r1, .int .i64 r2, .int .i64 r3, .int .i64 r4, .int .i64 f0, .int .i64 f1, .int .i64 f2, .int .i64 f3, .int .i64 f4]] w fun e w' => e = .returned (.bool false) ∧ Below w.heap.size w w' := by
 go_enter Tryz.func65, Tryz.ntmps65
 go_wp2_with (go_at_call 50; refine (upTo_any _ _ _).mono ?_; rintro e w' ⟨rfl, rfl⟩)
 go_ret
 exact ⟨rfl, below1 _ _⟩
end Go.Proofs.YtlohbaoigfaneaaGreat
