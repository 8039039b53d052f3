import Derived.Test.YtlohbaoigfaneaaGreatNod
import Derived.Laws.StructEq
namespace Go.Proofs.YtlohbaoigfaneaaGreat
open Go.RowKit
set_option linter.unusedVariables false
set_option linter.unusedSimpArgs false
def fitsB (x : Int) : Bool := decide (-1073741823 ≤ x ∧ x ≤ 1073741823)
def uptoB (x m : Int) : Bool := decide (0 ≤ x ∧ x ≤ m)
def glB (s p po m mo : Int) : Bool := fitsB s && fitsB p && fitsB m && uptoB po 3 && uptoB mo 3
theorem fits_yes {x : Int} (h1 : -1073741823 ≤ x) (h2 : x ≤ 1073741823) : fitsB x = true := by simp [fitsB, h1, h2]
theorem fits_no {x : Int} (h : ¬ (-1073741823 ≤ x ∧ x ≤ 1073741823)) : fitsB x = false := by simp [fitsB]; omega
theorem upto_yes {x m : Int} (h1 : 0 ≤ x) (h2 : x ≤ m) : uptoB x m = true := by simp [uptoB, h1, h2]
theorem upto_no {x m : Int} (h : ¬ (0 ≤ x ∧ x ≤ m)) : uptoB x m = false := by simp [uptoB]; omega
theorem specFits_any (x : Int) (w : World) : Calls Tryz.prog 116 #[.int .i64 x] w fun e w' => e = .returned (.bool (fitsB x)) ∧ w' = w := by
 by_cases h1 : -1073741823 ≤ x
 ·by_cases h2 : x ≤ 1073741823
  ·rw [fits_yes h1 h2]
   go_enter Tryz.func116, Tryz.ntmps116
   go_wp2
   go_ret
   exact ⟨rfl, rfl⟩
  ·rw [fits_no (by omega)]
   go_enter Tryz.func116, Tryz.ntmps116
   go_wp2
   go_ret
   exact ⟨rfl, rfl⟩
 ·rw [fits_no (by omega)]
  go_enter Tryz.func116, Tryz.ntmps116
  go_wp2
  go_ret
  exact ⟨rfl, rfl⟩
theorem implFits_any (x : Int) (w : World) : Calls Tryz.prog 125 #[.int .i64 x] w fun e w' => e = .returned (.bool (fitsB x)) ∧ w' = w := by
 by_cases h1 : -1073741823 ≤ x
 ·by_cases h2 : x ≤ 1073741823
  ·rw [fits_yes h1 h2]
   go_enter Tryz.func125, Tryz.ntmps125
   go_wp2
   go_ret
   exact ⟨rfl, rfl⟩
  ·rw [fits_no (by omega)]
   go_enter Tryz.func125, Tryz.ntmps125
   go_wp2
   go_ret
   exact ⟨rfl, rfl⟩
 ·rw [fits_no (by omega)]
  go_enter Tryz.func125, Tryz.ntmps125
  go_wp2
  go_ret
  exact ⟨rfl, rfl⟩
theorem specOrder_any (x : Int) (w : World) : Calls Tryz.prog 117 #[.int .i64 x] w fun e w' => e = .returned (.bool (uptoB x 3)) ∧ w' = w := by
 by_cases h1 : 0 ≤ x
 ·by_cases h2 : x ≤ 3
  ·rw [upto_yes h1 h2]
   go_enter Tryz.func117, Tryz.ntmps117
   go_wp2
   go_ret
   exact ⟨rfl, rfl⟩
  ·rw [upto_no (by omega)]
   go_enter Tryz.func117, Tryz.ntmps117
   go_wp2
   go_ret
   exact ⟨rfl, rfl⟩
 ·rw [upto_no (by omega)]
  go_enter Tryz.func117, Tryz.ntmps117
  go_wp2
  go_ret
  exact ⟨rfl, rfl⟩
theorem implOrder_any (x : Int) (w : World) : Calls Tryz.prog 126 #[.int .i64 x] w fun e w' => e = .returned (.bool (uptoB x 3)) ∧ w' = w := by
 by_cases h1 : 0 ≤ x
 ·by_cases h2 : x ≤ 3
  ·rw [upto_yes h1 h2]
   go_enter Tryz.func126, Tryz.ntmps126
   go_wp2
   go_ret
   exact ⟨rfl, rfl⟩
  ·rw [upto_no (by omega)]
   go_enter Tryz.func126, Tryz.ntmps126
   go_wp2
   go_ret
   exact ⟨rfl, rfl⟩
 ·rw [upto_no (by omega)]
  go_enter Tryz.func126, Tryz.ntmps126
  go_wp2
  go_ret
  exact ⟨rfl, rfl⟩
theorem upTo_any (x m : Int) (w : World) : Calls Tryz.prog 50 #[.int .i64 x, .int .i64 m] w fun e w' => e = .returned (.bool (uptoB x m)) ∧ w' = w := by
 by_cases h1 : 0 ≤ x
 ·by_cases h2 : x ≤ m
  ·rw [upto_yes h1 h2]
   go_enter Tryz.func50, Tryz.ntmps50
   go_wp2
   go_ret
   exact ⟨rfl, rfl⟩
  ·rw [upto_no (by omega)]
   go_enter Tryz.func50, Tryz.ntmps50
   go_wp2
   go_ret
   exact ⟨rfl, rfl⟩
 ·rw [upto_no (by omega)]
  go_enter Tryz.func50, Tryz.ntmps50
  go_wp2
  go_ret
  exact ⟨rfl, rfl⟩
theorem specGlueOk_any (s p po m mo : Int) (w : World) : Calls Tryz.prog 96 #[glueV s p po m mo] w fun e w' => e = .returned (.bool (glB s p po m mo)) ∧ Below w.heap.size w w' := by
 unfold glB
 cases h1 : fitsB s <;> cases h2 : fitsB p <;> cases h3 : fitsB m <;> cases h4 : uptoB po 3 <;> cases h5 : uptoB mo 3
 all_goals
  go_enter Tryz.func96, Tryz.ntmps96
  go_wp2_with (first
   | (go_at_call 116; refine (specFits_any _ _).mono ?_; rintro e w' ⟨rfl, rfl⟩)
   | (go_at_call 117; refine (specOrder_any _ _).mono ?_; rintro e w' ⟨rfl, rfl⟩))
  go_ret
  exact ⟨rfl, below1 _ _⟩
theorem implGlueOk_any (s p po m mo : Int) (w : World) : Calls Tryz.prog 106 #[glueV s p po m mo] w fun e w' => e = .returned (.bool (glB s p po m mo)) ∧ Below w.heap.size w w' := by
 unfold glB
 cases h1 : fitsB s <;> cases h2 : fitsB p <;> cases h3 : fitsB m <;> cases h4 : uptoB po 3 <;> cases h5 : uptoB mo 3
 all_goals
  go_enter Tryz.func106, Tryz.ntmps106
  go_wp2_with (first
   | (go_at_call 125; refine (implFits_any _ _).mono ?_; rintro e w' ⟨rfl, rfl⟩)
   | (go_at_call 126; refine (implOrder_any _ _).mono ?_; rintro e w' ⟨rfl, rfl⟩))
  go_ret
  exact ⟨rfl, below1 _ _⟩
abbrev sizeV (a b c : Int) : Value := .agg #[.int .i64 a, .int .i64 b, .int .i64 c]
theorem sizeFits_any (a b c : Int) (w : World) : Calls Tryz.prog 183 #[sizeV a b c] w fun e w' => e = .returned (.bool (fitsB a && fitsB b && fitsB c)) ∧ Below w.heap.size w w' := by
 cases h1 : fitsB a <;> cases h2 : fitsB b <;> cases h3 : fitsB c
 all_goals
  go_enter Tryz.func183, Tryz.ntmps183
  go_wp2_with (go_at_call 125; refine (implFits_any _ _).mono ?_; rintro e w' ⟨rfl, rfl⟩)
  go_ret
  exact ⟨rfl, below1 _ _⟩
theorem sizeOf_any (x : Nd) (w : World) : Calls Tryz.prog 127 #[ndV x] w fun e w' => e = .returned (sizeV x.wd x.ht x.dp) ∧ Below w.heap.size w w' := by
 obtain ⟨k, wd, ht, dp, sh, fo, ch, nn, gs, gp, gpo, gm, gmo, tx, kids⟩ := x
 simp only [ndV]
 go_enter Tryz.func127, Tryz.ntmps127
 go_wp2
 refine bodyPost_ret (v := sizeV wd ht dp) (by simp [results, Tryz.results127, go_sem]) rfl ⟨rfl, ?_⟩
 trace_state
 repeat (first | with_reducible exact below2 _ _ _ | with_reducible exact below3 _ _ _ _ | (with_reducible refine Below.setCell ?_ ?_ _; rotate_left; focus (first | (simp; done) | (simp; omega))))
def eqNd (x y : Nd) : Bool :=
 x.k == y.k && (x.wd == y.wd && (x.ht == y.ht && (x.dp == y.dp && (x.sh == y.sh && (x.fo == y.fo && (x.ch == y.ch && (x.nn == y.nn && ((x.gs == y.gs && (x.gp == y.gp && (x.gpo == y.gpo && (x.gm == y.gm && x.gmo == y.gmo)))) && (x.tx.toList == y.tx.toList && x.kids == y.kids)))))))))
def eqGl (a b c d e a' b' c' d' e' : Int) : Bool := a == a' && (b == b' && (c == c' && (d == d' && e == e')))
theorem run_glue (a b c d e a' b' c' d' e' : Int) (n : Nat) (w : World) : (Op.equalIn (n + 1 + 1) 33 (glueV a b c d e) (glueV a' b' c' d' e')).run Tryz.prog w = .ok (eqGl a b c d e a' b' c' d' e') w := by
 have u2 := Tryz.underlying2
 have hS : Tryz.prog.underlying 33 = some (.struct (Tryz.prog.fieldsOf 33)) := by kernel_rfl
 have hp : Tryz.prog.stoodInHeld 33 = false := by kernel_rfl
 rw [run_equalIn_agg w (n + 1) 33 _ _ hS hp]
 simp only [Program.fieldsOf, Tryz.underlying33]
 go_simp
 simp only [eqGl]
 by_cases h1 : a = a' <;> by_cases h2 : b = b' <;> by_cases h3 : c = c' <;> by_cases h4 : d = d' <;> by_cases h5 : e = e' <;> simp [h1, h2, h3, h4, h5]
theorem neqNode (x y : Nd) (w : World) : (binOp .neq 61 (ndV x) (ndV y)).run Tryz.prog w = .ok (.bool (!eqNd x y)) w := by
 obtain ⟨k, wd, ht, dp, sh, fo, ch, nn, gs, gp, gpo, gm, gmo, tx, kids⟩ := x
 obtain ⟨k', wd', ht', dp', sh', fo', ch', nn', gs', gp', gpo', gm', gmo', tx', kids'⟩ := y
 have u2 := Tryz.underlying2
 have u9 := Tryz.underlying9
 have hS : Tryz.prog.underlying 61 = some (.struct (Tryz.prog.fieldsOf 61)) := by kernel_rfl
 have hp : Tryz.prog.stoodInHeld 61 = false := by kernel_rfl
 have hg := fun n w => run_glue gs gp gpo gm gmo gs' gp' gpo' gm' gmo' n w
 simp only [ndV]
 rw [run_neq_struct, show (10000 : Nat) = 9999 + 1 from rfl, run_equalIn_agg w 9999 61 _ _ hS hp]
 simp only [Program.fieldsOf, Tryz.underlying61]
 go_simp
 simp only [eqNd]
 rw [show (gs == gs' && (gp == gp' && (gpo == gpo' && (gm == gm' && gmo == gmo')))) = eqGl gs gp gpo gm gmo gs' gp' gpo' gm' gmo' from rfl]
 generalize eqGl gs gp gpo gm gmo gs' gp' gpo' gm' gmo' = G
 clear hg hS hp
 by_cases h1 : k = k'
 ·by_cases h2 : wd = wd'
  ·by_cases h3 : ht = ht'
   ·by_cases h4 : dp = dp'
    ·by_cases h5 : sh = sh'
     ·by_cases h6 : fo = fo'
      ·by_cases h7 : ch = ch'
       ·by_cases h8 : nn = nn'
        ·cases G <;> by_cases h9 : tx.toList = tx'.toList <;> by_cases h10 : kids = kids' <;> simp [h1, h2, h3, h4, h5, h6, h7, h8, h9, h10]
        ·simp [h8]
       ·simp [h7]
      ·simp [h6]
     ·simp [h5]
    ·simp [h4]
   ·simp [h3]
  ·simp [h2]
 ·simp [h1]
theorem eqNd_iff (x y : Nd) : eqNd x y = true ↔ x = y := by
 obtain ⟨k, wd, ht, dp, sh, fo, ch, nn, gs, gp, gpo, gm, gmo, tx, kids⟩ := x
 obtain ⟨k', wd', ht', dp', sh', fo', ch', nn', gs', gp', gpo', gm', gmo', tx', kids'⟩ := y
 have ht : tx.toList = tx'.toList ↔ tx = tx' := by
  rw [ByteArray.toList_eq, ByteArray.toList_eq]
  obtain ⟨⟨a⟩⟩ := tx
  obtain ⟨⟨b⟩⟩ := tx'
  simp
 simp [eqNd, ht, and_assoc]
def Nd.used (x : Nd) : Nd :=
 if x.k = 1 ∨ x.k = 8 then ⟨x.k, x.wd, x.ht, x.dp, 0, x.fo, x.ch, 0, 0, 0, 0, 0, 0, ⟨#[]⟩, 0⟩
 else if x.k = 2 then ⟨x.k, x.wd, 0, 0, 0, 0, 0, 0, 0, 0, 0, 0, 0, ⟨#[]⟩, 0⟩
 else if x.k = 3 then ⟨x.k, x.wd, 0, 0, 0, 0, 0, 0, x.gs, x.gp, x.gpo, x.gm, x.gmo, ⟨#[]⟩, 0⟩
 else if x.k = 4 then ⟨x.k, 0, 0, 0, 0, 0, 0, x.nn, 0, 0, 0, 0, 0, ⟨#[]⟩, 0⟩
 else if x.k = 5 then ⟨x.k, x.wd, x.ht, x.dp, 0, 0, 0, 0, 0, 0, 0, 0, 0, ⟨#[]⟩, 0⟩
 else if x.k = 6 ∨ x.k = 7 then ⟨x.k, x.wd, x.ht, x.dp, x.sh, 0, 0, 0, 0, 0, 0, 0, 0, ⟨#[]⟩, x.kids⟩
 else if x.k = 9 ∨ x.k = 10 then ⟨x.k, 0, 0, 0, 0, 0, 0, 0, 0, 0, 0, 0, 0, x.tx, 0⟩
 else if x.k = 11 then ⟨x.k, 0, x.ht, 0, 0, 0, 0, x.nn, 0, 0, 0, 0, 0, ⟨#[]⟩, x.kids⟩
 else x
def penB (x : Nd) : Bool := !((x.k == 4 && (!decide (-10000 ≤ x.nn) || !decide (x.nn ≤ 10000))) || (x.k == 11 && (!decide (0 ≤ x.nn) || !decide (x.nn ≤ 15))))
def specB (x : Nd) : Bool :=
 decide (1 ≤ x.k ∧ x.k ≤ 11) && eqNd x x.used && (fitsB x.wd && fitsB x.ht && fitsB x.dp && fitsB x.sh && glB x.gs x.gp x.gpo x.gm x.gmo) && penB x && (uptoB x.fo 15 && uptoB x.ch 255) && decide ((x.tx.size : Int) ≤ 1000)
def goodB (x : Nd) : Bool := specB x && decide (0 ≤ x.kids)
def deepB (x : Nd) : Bool := x.k == 6 || x.k == 7 || x.k == 11
theorem eqNd_comm (x y : Nd) : eqNd x y = eqNd y x := by
 cases h : eqNd x y <;> cases h2 : eqNd y x
 ·rfl
 ·rw [eqNd_iff] at h2
  subst h2
  rw [show eqNd y y = true from (eqNd_iff y y).2 rfl] at h
  cases h
 ·rw [eqNd_iff] at h
  subst h
  rw [show eqNd x x = true from (eqNd_iff x x).2 rfl] at h2
  cases h2
 ·rfl
theorem fits0 : fitsB 0 = true := by decide
theorem upto0 (m : Int) (h : 0 ≤ m) : uptoB 0 m = true := by simp [uptoB, h]
theorem gl0 : glB 0 0 0 0 0 = true := by decide
theorem kinds {k : Int} (h1 : 1 ≤ k) (h2 : k ≤ 11) : k = 1 ∨ k = 2 ∨ k = 3 ∨ k = 4 ∨ k = 5 ∨ k = 6 ∨ k = 7 ∨ k = 8 ∨ k = 9 ∨ k = 10 ∨ k = 11 := by omega
theorem good_1 (wd ht dp sh fo ch nn gs gp gpo gm gmo kids : Int) (tx : ByteArray) : ((uptoB fo 15 && uptoB ch 255 && (fitsB wd && fitsB ht && fitsB dp)) && eqNd ⟨1, wd, ht, dp, 0, fo, ch, 0, 0, 0, 0, 0, 0, ⟨#[]⟩, 0⟩ ⟨1, wd, ht, dp, sh, fo, ch, nn, gs, gp, gpo, gm, gmo, tx, kids⟩) = goodB ⟨1, wd, ht, dp, sh, fo, ch, nn, gs, gp, gpo, gm, gmo, tx, kids⟩ := by
 have hu : Nd.used ⟨1, wd, ht, dp, sh, fo, ch, nn, gs, gp, gpo, gm, gmo, tx, kids⟩ = ⟨1, wd, ht, dp, 0, fo, ch, 0, 0, 0, 0, 0, 0, ⟨#[]⟩, 0⟩ := by simp [Nd.used]
 unfold goodB specB
 rw [hu, eqNd_comm ⟨1, wd, ht, dp, 0, fo, ch, 0, 0, 0, 0, 0, 0, ⟨#[]⟩, 0⟩]
 cases h : eqNd ⟨1, wd, ht, dp, sh, fo, ch, nn, gs, gp, gpo, gm, gmo, tx, kids⟩ ⟨1, wd, ht, dp, 0, fo, ch, 0, 0, 0, 0, 0, 0, ⟨#[]⟩, 0⟩
 ·simp
 ·rw [eqNd_iff, Nd.mk.injEq] at h
  simp at h
  simp only [h, fits0, gl0, upto0 15 (by decide), upto0 255 (by decide), penB]
  simp [ByteArray.size]
  try (cases fitsB wd <;> cases fitsB ht <;> cases fitsB dp <;> cases fitsB sh <;> simp <;> try (rw [Bool.eq_iff_iff]; simp; omega))
theorem good_2 (wd ht dp sh fo ch nn gs gp gpo gm gmo kids : Int) (tx : ByteArray) : ((fitsB wd) && eqNd ⟨2, wd, 0, 0, 0, 0, 0, 0, 0, 0, 0, 0, 0, ⟨#[]⟩, 0⟩ ⟨2, wd, ht, dp, sh, fo, ch, nn, gs, gp, gpo, gm, gmo, tx, kids⟩) = goodB ⟨2, wd, ht, dp, sh, fo, ch, nn, gs, gp, gpo, gm, gmo, tx, kids⟩ := by
 have hu : Nd.used ⟨2, wd, ht, dp, sh, fo, ch, nn, gs, gp, gpo, gm, gmo, tx, kids⟩ = ⟨2, wd, 0, 0, 0, 0, 0, 0, 0, 0, 0, 0, 0, ⟨#[]⟩, 0⟩ := by simp [Nd.used]
 unfold goodB specB
 rw [hu, eqNd_comm ⟨2, wd, 0, 0, 0, 0, 0, 0, 0, 0, 0, 0, 0, ⟨#[]⟩, 0⟩]
 cases h : eqNd ⟨2, wd, ht, dp, sh, fo, ch, nn, gs, gp, gpo, gm, gmo, tx, kids⟩ ⟨2, wd, 0, 0, 0, 0, 0, 0, 0, 0, 0, 0, 0, ⟨#[]⟩, 0⟩
 ·simp
 ·rw [eqNd_iff, Nd.mk.injEq] at h
  simp at h
  simp only [h, fits0, gl0, upto0 15 (by decide), upto0 255 (by decide), penB]
  simp [ByteArray.size]
  try (cases fitsB wd <;> cases fitsB ht <;> cases fitsB dp <;> cases fitsB sh <;> simp <;> try (rw [Bool.eq_iff_iff]; simp; omega))
theorem good_3 (wd ht dp sh fo ch nn gs gp gpo gm gmo kids : Int) (tx : ByteArray) : ((glB gs gp gpo gm gmo && fitsB wd) && eqNd ⟨3, wd, 0, 0, 0, 0, 0, 0, gs, gp, gpo, gm, gmo, ⟨#[]⟩, 0⟩ ⟨3, wd, ht, dp, sh, fo, ch, nn, gs, gp, gpo, gm, gmo, tx, kids⟩) = goodB ⟨3, wd, ht, dp, sh, fo, ch, nn, gs, gp, gpo, gm, gmo, tx, kids⟩ := by
 have hu : Nd.used ⟨3, wd, ht, dp, sh, fo, ch, nn, gs, gp, gpo, gm, gmo, tx, kids⟩ = ⟨3, wd, 0, 0, 0, 0, 0, 0, gs, gp, gpo, gm, gmo, ⟨#[]⟩, 0⟩ := by simp [Nd.used]
 unfold goodB specB
 rw [hu, eqNd_comm ⟨3, wd, 0, 0, 0, 0, 0, 0, gs, gp, gpo, gm, gmo, ⟨#[]⟩, 0⟩]
 cases h : eqNd ⟨3, wd, ht, dp, sh, fo, ch, nn, gs, gp, gpo, gm, gmo, tx, kids⟩ ⟨3, wd, 0, 0, 0, 0, 0, 0, gs, gp, gpo, gm, gmo, ⟨#[]⟩, 0⟩
 ·simp
 ·rw [eqNd_iff, Nd.mk.injEq] at h
  simp at h
  simp only [h, fits0, gl0, upto0 15 (by decide), upto0 255 (by decide), penB]
  simp [ByteArray.size]
  try (cases fitsB wd <;> cases fitsB ht <;> cases fitsB dp <;> cases fitsB sh <;> simp <;> try (rw [Bool.eq_iff_iff]; simp; omega))
theorem good_4 (wd ht dp sh fo ch nn gs gp gpo gm gmo kids : Int) (tx : ByteArray) : ((decide (-10000 ≤ nn) && decide (nn ≤ 10000)) && eqNd ⟨4, 0, 0, 0, 0, 0, 0, nn, 0, 0, 0, 0, 0, ⟨#[]⟩, 0⟩ ⟨4, wd, ht, dp, sh, fo, ch, nn, gs, gp, gpo, gm, gmo, tx, kids⟩) = goodB ⟨4, wd, ht, dp, sh, fo, ch, nn, gs, gp, gpo, gm, gmo, tx, kids⟩ := by
 have hu : Nd.used ⟨4, wd, ht, dp, sh, fo, ch, nn, gs, gp, gpo, gm, gmo, tx, kids⟩ = ⟨4, 0, 0, 0, 0, 0, 0, nn, 0, 0, 0, 0, 0, ⟨#[]⟩, 0⟩ := by simp [Nd.used]
 unfold goodB specB
 rw [hu, eqNd_comm ⟨4, 0, 0, 0, 0, 0, 0, nn, 0, 0, 0, 0, 0, ⟨#[]⟩, 0⟩]
 cases h : eqNd ⟨4, wd, ht, dp, sh, fo, ch, nn, gs, gp, gpo, gm, gmo, tx, kids⟩ ⟨4, 0, 0, 0, 0, 0, 0, nn, 0, 0, 0, 0, 0, ⟨#[]⟩, 0⟩
 ·simp
 ·rw [eqNd_iff, Nd.mk.injEq] at h
  simp at h
  simp only [h, fits0, gl0, upto0 15 (by decide), upto0 255 (by decide), penB]
  simp [ByteArray.size]
  try (cases fitsB wd <;> cases fitsB ht <;> cases fitsB dp <;> cases fitsB sh <;> simp <;> try (rw [Bool.eq_iff_iff]; simp; omega))
theorem good_5 (wd ht dp sh fo ch nn gs gp gpo gm gmo kids : Int) (tx : ByteArray) : ((fitsB wd && fitsB ht && fitsB dp) && eqNd ⟨5, wd, ht, dp, 0, 0, 0, 0, 0, 0, 0, 0, 0, ⟨#[]⟩, 0⟩ ⟨5, wd, ht, dp, sh, fo, ch, nn, gs, gp, gpo, gm, gmo, tx, kids⟩) = goodB ⟨5, wd, ht, dp, sh, fo, ch, nn, gs, gp, gpo, gm, gmo, tx, kids⟩ := by
 have hu : Nd.used ⟨5, wd, ht, dp, sh, fo, ch, nn, gs, gp, gpo, gm, gmo, tx, kids⟩ = ⟨5, wd, ht, dp, 0, 0, 0, 0, 0, 0, 0, 0, 0, ⟨#[]⟩, 0⟩ := by simp [Nd.used]
 unfold goodB specB
 rw [hu, eqNd_comm ⟨5, wd, ht, dp, 0, 0, 0, 0, 0, 0, 0, 0, 0, ⟨#[]⟩, 0⟩]
 cases h : eqNd ⟨5, wd, ht, dp, sh, fo, ch, nn, gs, gp, gpo, gm, gmo, tx, kids⟩ ⟨5, wd, ht, dp, 0, 0, 0, 0, 0, 0, 0, 0, 0, ⟨#[]⟩, 0⟩
 ·simp
 ·rw [eqNd_iff, Nd.mk.injEq] at h
  simp at h
  simp only [h, fits0, gl0, upto0 15 (by decide), upto0 255 (by decide), penB]
  simp [ByteArray.size]
  try (cases fitsB wd <;> cases fitsB ht <;> cases fitsB dp <;> cases fitsB sh <;> simp <;> try (rw [Bool.eq_iff_iff]; simp; omega))
theorem good_6 (wd ht dp sh fo ch nn gs gp gpo gm gmo kids : Int) (tx : ByteArray) : (((fitsB wd && fitsB ht && fitsB dp) && fitsB sh && decide (0 ≤ kids)) && eqNd ⟨6, wd, ht, dp, sh, 0, 0, 0, 0, 0, 0, 0, 0, ⟨#[]⟩, kids⟩ ⟨6, wd, ht, dp, sh, fo, ch, nn, gs, gp, gpo, gm, gmo, tx, kids⟩) = goodB ⟨6, wd, ht, dp, sh, fo, ch, nn, gs, gp, gpo, gm, gmo, tx, kids⟩ := by
 have hu : Nd.used ⟨6, wd, ht, dp, sh, fo, ch, nn, gs, gp, gpo, gm, gmo, tx, kids⟩ = ⟨6, wd, ht, dp, sh, 0, 0, 0, 0, 0, 0, 0, 0, ⟨#[]⟩, kids⟩ := by simp [Nd.used]
 unfold goodB specB
 rw [hu, eqNd_comm ⟨6, wd, ht, dp, sh, 0, 0, 0, 0, 0, 0, 0, 0, ⟨#[]⟩, kids⟩]
 cases h : eqNd ⟨6, wd, ht, dp, sh, fo, ch, nn, gs, gp, gpo, gm, gmo, tx, kids⟩ ⟨6, wd, ht, dp, sh, 0, 0, 0, 0, 0, 0, 0, 0, ⟨#[]⟩, kids⟩
 ·simp
 ·rw [eqNd_iff, Nd.mk.injEq] at h
  simp at h
  simp only [h, fits0, gl0, upto0 15 (by decide), upto0 255 (by decide), penB]
  simp [ByteArray.size]
  try (cases fitsB wd <;> cases fitsB ht <;> cases fitsB dp <;> cases fitsB sh <;> simp <;> try (rw [Bool.eq_iff_iff]; simp; omega))
theorem good_7 (wd ht dp sh fo ch nn gs gp gpo gm gmo kids : Int) (tx : ByteArray) : (((fitsB wd && fitsB ht && fitsB dp) && fitsB sh && decide (0 ≤ kids)) && eqNd ⟨7, wd, ht, dp, sh, 0, 0, 0, 0, 0, 0, 0, 0, ⟨#[]⟩, kids⟩ ⟨7, wd, ht, dp, sh, fo, ch, nn, gs, gp, gpo, gm, gmo, tx, kids⟩) = goodB ⟨7, wd, ht, dp, sh, fo, ch, nn, gs, gp, gpo, gm, gmo, tx, kids⟩ := by
 have hu : Nd.used ⟨7, wd, ht, dp, sh, fo, ch, nn, gs, gp, gpo, gm, gmo, tx, kids⟩ = ⟨7, wd, ht, dp, sh, 0, 0, 0, 0, 0, 0, 0, 0, ⟨#[]⟩, kids⟩ := by simp [Nd.used]
 unfold goodB specB
 rw [hu, eqNd_comm ⟨7, wd, ht, dp, sh, 0, 0, 0, 0, 0, 0, 0, 0, ⟨#[]⟩, kids⟩]
 cases h : eqNd ⟨7, wd, ht, dp, sh, fo, ch, nn, gs, gp, gpo, gm, gmo, tx, kids⟩ ⟨7, wd, ht, dp, sh, 0, 0, 0, 0, 0, 0, 0, 0, ⟨#[]⟩, kids⟩
 ·simp
 ·rw [eqNd_iff, Nd.mk.injEq] at h
  simp at h
  simp only [h, fits0, gl0, upto0 15 (by decide), upto0 255 (by decide), penB]
  simp [ByteArray.size]
  try (cases fitsB wd <;> cases fitsB ht <;> cases fitsB dp <;> cases fitsB sh <;> simp <;> try (rw [Bool.eq_iff_iff]; simp; omega))
theorem good_8 (wd ht dp sh fo ch nn gs gp gpo gm gmo kids : Int) (tx : ByteArray) : ((uptoB fo 15 && uptoB ch 255 && (fitsB wd && fitsB ht && fitsB dp)) && eqNd ⟨8, wd, ht, dp, 0, fo, ch, 0, 0, 0, 0, 0, 0, ⟨#[]⟩, 0⟩ ⟨8, wd, ht, dp, sh, fo, ch, nn, gs, gp, gpo, gm, gmo, tx, kids⟩) = goodB ⟨8, wd, ht, dp, sh, fo, ch, nn, gs, gp, gpo, gm, gmo, tx, kids⟩ := by
 have hu : Nd.used ⟨8, wd, ht, dp, sh, fo, ch, nn, gs, gp, gpo, gm, gmo, tx, kids⟩ = ⟨8, wd, ht, dp, 0, fo, ch, 0, 0, 0, 0, 0, 0, ⟨#[]⟩, 0⟩ := by simp [Nd.used]
 unfold goodB specB
 rw [hu, eqNd_comm ⟨8, wd, ht, dp, 0, fo, ch, 0, 0, 0, 0, 0, 0, ⟨#[]⟩, 0⟩]
 cases h : eqNd ⟨8, wd, ht, dp, sh, fo, ch, nn, gs, gp, gpo, gm, gmo, tx, kids⟩ ⟨8, wd, ht, dp, 0, fo, ch, 0, 0, 0, 0, 0, 0, ⟨#[]⟩, 0⟩
 ·simp
 ·rw [eqNd_iff, Nd.mk.injEq] at h
  simp at h
  simp only [h, fits0, gl0, upto0 15 (by decide), upto0 255 (by decide), penB]
  simp [ByteArray.size]
  try (cases fitsB wd <;> cases fitsB ht <;> cases fitsB dp <;> cases fitsB sh <;> simp <;> try (rw [Bool.eq_iff_iff]; simp; omega))
theorem good_9 (wd ht dp sh fo ch nn gs gp gpo gm gmo kids : Int) (tx : ByteArray) : ((decide ((tx.size : Int) ≤ 1000)) && eqNd ⟨9, 0, 0, 0, 0, 0, 0, 0, 0, 0, 0, 0, 0, tx, 0⟩ ⟨9, wd, ht, dp, sh, fo, ch, nn, gs, gp, gpo, gm, gmo, tx, kids⟩) = goodB ⟨9, wd, ht, dp, sh, fo, ch, nn, gs, gp, gpo, gm, gmo, tx, kids⟩ := by
 have hu : Nd.used ⟨9, wd, ht, dp, sh, fo, ch, nn, gs, gp, gpo, gm, gmo, tx, kids⟩ = ⟨9, 0, 0, 0, 0, 0, 0, 0, 0, 0, 0, 0, 0, tx, 0⟩ := by simp [Nd.used]
 unfold goodB specB
 rw [hu, eqNd_comm ⟨9, 0, 0, 0, 0, 0, 0, 0, 0, 0, 0, 0, 0, tx, 0⟩]
 cases h : eqNd ⟨9, wd, ht, dp, sh, fo, ch, nn, gs, gp, gpo, gm, gmo, tx, kids⟩ ⟨9, 0, 0, 0, 0, 0, 0, 0, 0, 0, 0, 0, 0, tx, 0⟩
 ·simp
 ·rw [eqNd_iff, Nd.mk.injEq] at h
  simp at h
  simp only [h, fits0, gl0, upto0 15 (by decide), upto0 255 (by decide), penB]
  simp
  try (cases fitsB wd <;> cases fitsB ht <;> cases fitsB dp <;> cases fitsB sh <;> simp <;> try (rw [Bool.eq_iff_iff]; simp; omega))
theorem good_10 (wd ht dp sh fo ch nn gs gp gpo gm gmo kids : Int) (tx : ByteArray) : ((decide ((tx.size : Int) ≤ 1000)) && eqNd ⟨10, 0, 0, 0, 0, 0, 0, 0, 0, 0, 0, 0, 0, tx, 0⟩ ⟨10, wd, ht, dp, sh, fo, ch, nn, gs, gp, gpo, gm, gmo, tx, kids⟩) = goodB ⟨10, wd, ht, dp, sh, fo, ch, nn, gs, gp, gpo, gm, gmo, tx, kids⟩ := by
 have hu : Nd.used ⟨10, wd, ht, dp, sh, fo, ch, nn, gs, gp, gpo, gm, gmo, tx, kids⟩ = ⟨10, 0, 0, 0, 0, 0, 0, 0, 0, 0, 0, 0, 0, tx, 0⟩ := by simp [Nd.used]
 unfold goodB specB
 rw [hu, eqNd_comm ⟨10, 0, 0, 0, 0, 0, 0, 0, 0, 0, 0, 0, 0, tx, 0⟩]
 cases h : eqNd ⟨10, wd, ht, dp, sh, fo, ch, nn, gs, gp, gpo, gm, gmo, tx, kids⟩ ⟨10, 0, 0, 0, 0, 0, 0, 0, 0, 0, 0, 0, 0, tx, 0⟩
 ·simp
 ·rw [eqNd_iff, Nd.mk.injEq] at h
  simp at h
  simp only [h, fits0, gl0, upto0 15 (by decide), upto0 255 (by decide), penB]
  simp
  try (cases fitsB wd <;> cases fitsB ht <;> cases fitsB dp <;> cases fitsB sh <;> simp <;> try (rw [Bool.eq_iff_iff]; simp; omega))
theorem good_11 (wd ht dp sh fo ch nn gs gp gpo gm gmo kids : Int) (tx : ByteArray) : ((uptoB nn 15 && fitsB ht && decide (0 ≤ kids)) && eqNd ⟨11, 0, ht, 0, 0, 0, 0, nn, 0, 0, 0, 0, 0, ⟨#[]⟩, kids⟩ ⟨11, wd, ht, dp, sh, fo, ch, nn, gs, gp, gpo, gm, gmo, tx, kids⟩) = goodB ⟨11, wd, ht, dp, sh, fo, ch, nn, gs, gp, gpo, gm, gmo, tx, kids⟩ := by
 have hu : Nd.used ⟨11, wd, ht, dp, sh, fo, ch, nn, gs, gp, gpo, gm, gmo, tx, kids⟩ = ⟨11, 0, ht, 0, 0, 0, 0, nn, 0, 0, 0, 0, 0, ⟨#[]⟩, kids⟩ := by simp [Nd.used]
 unfold goodB specB
 rw [hu, eqNd_comm ⟨11, 0, ht, 0, 0, 0, 0, nn, 0, 0, 0, 0, 0, ⟨#[]⟩, kids⟩]
 cases h : eqNd ⟨11, wd, ht, dp, sh, fo, ch, nn, gs, gp, gpo, gm, gmo, tx, kids⟩ ⟨11, 0, ht, 0, 0, 0, 0, nn, 0, 0, 0, 0, 0, ⟨#[]⟩, kids⟩
 ·simp
 ·rw [eqNd_iff, Nd.mk.injEq] at h
  simp at h
  simp only [h, fits0, gl0, upto0 15 (by decide), upto0 255 (by decide), penB]
  simp [ByteArray.size, uptoB]
  try (cases fitsB wd <;> cases fitsB ht <;> cases fitsB dp <;> cases fitsB sh <;> simp <;> try (rw [Bool.eq_iff_iff]; simp; omega))
def okFrom (len : Int) : Int → List Int → List Nd → Bool
 | _, _, [] => true
 | i, T, x :: xs =>
  let U := T.dropWhile (· == i)
  goodB x && decide (x.kids ≤ U.headD len - i - 1) && (!deepB x || decide (U.length ≤ 40)) && okFrom len (i + 1) (if deepB x then (i + 1 + x.kids) :: U else U) xs
theorem okFrom_pad (len i : Int) (T : List Int) (xs : List Nd) : okFrom len i (i :: T) xs = okFrom len i T xs := by
 cases xs with
 | nil => rfl
 | cons x xs => simp [okFrom]
def Open (i : Int) (T : List Int) : Prop := (∀ y ∈ T, i ≤ y) ∧ T.Pairwise (· ≤ ·)
theorem Open.pop {i : Int} : ∀ {T : List Int}, Open i T → Open (i + 1) (T.dropWhile (· == i))
 | [], _ => ⟨by simp, by simp⟩
 | a :: T, h => by
  by_cases ha : a = i
  ·subst ha
   simp only [List.dropWhile, beq_self_eq_true]
   exact Open.pop ⟨fun y hy => h.1 y (List.mem_cons_of_mem _ hy), (List.pairwise_cons.1 h.2).2⟩
  ·have hf : (a == i) = false := by simpa using ha
   simp only [List.dropWhile, hf]
   have h0 := h.1 a (List.mem_cons_self ..)
   refine ⟨fun y hy => ?_, h.2⟩
   rcases List.mem_cons.1 hy with rfl | hy
   ·omega
   ·have := (List.pairwise_cons.1 h.2).1 y hy
    omega
theorem Open.push {i e : Int} {U : List Int} (h : Open i U) (he : i ≤ e) (hl : ∀ len, e ≤ U.headD len ∨ U = []) : Open i (e :: U) := by
 refine ⟨fun y hy => ?_, List.pairwise_cons.2 ⟨fun y hy => ?_, h.2⟩⟩
 ·rcases List.mem_cons.1 hy with rfl | hy
  ·exact he
  ·exact h.1 y hy
 ·cases U with
  | nil => simp at hy
  | cons a U =>
   have h1 : e ≤ a := by
    rcases hl 0 with h | h
    ·simpa using h
    ·simp at h
   rcases List.mem_cons.1 hy with rfl | hy
   ·exact h1
   ·have := (List.pairwise_cons.1 h.2).1 y hy
    omega
theorem Open.head {i len : Int} {U : List Int} (h : Open i U) (hl : i ≤ len) : i ≤ U.headD len := by
 cases U with
 | nil => simpa using hl
 | cons a U => simpa using h.1 a (List.mem_cons_self ..)
theorem flat_kids {x : Nd} (h : goodB x = true) (hd : deepB x = false) : x.kids = 0 := by
 obtain ⟨k, wd, ht, dp, sh, fo, ch, nn, gs, gp, gpo, gm, gmo, tx, kids⟩ := x
 unfold goodB specB at h
 simp only [Bool.and_eq_true, decide_eq_true_eq] at h
 obtain ⟨⟨⟨⟨⟨⟨hk, he⟩, _⟩, _⟩, _⟩, _⟩, _⟩ := h
 rw [eqNd_iff] at he
 rcases kinds hk.1 hk.2 with rfl | rfl | rfl | rfl | rfl | rfl | rfl | rfl | rfl | rfl | rfl <;> simp [Nd.used, deepB] at he hd ⊢ <;> omega
end Go.Proofs.YtlohbaoigfaneaaGreat
