import Derived.Test.YtojoehdmjkgnnaaGreatNod
import Derived.Laws.StructEq
namespace Go.Proofs.YtojoehdmjkgnnaaGreat
open Go.RowKit
set_option linter.unusedVariables false
set_option linter.unusedSimpArgs false
def fitsB (x : Int) : Bool := decide (-1073741823 ≤ x ∧ x ≤ 1073741823)
def uptoB (x m : Int) : Bool := decide (0 ≤ x ∧ x ≤ m)
def glB (s p po m mo : Int) : Bool := fitsB s && fitsB p && fitsB m && uptoB po 3 && uptoB mo 3
theorem fits_yes {x : Int} (h1 : -1073741823 ≤ x) (h2 : x ≤ 1073741823) : fitsB x = true := by simp [fitsB, h1, h2]
theorem fits_no {x : Int} (h : ¬ (-1073741823 ≤ x ∧ x ≤ 1073741823)) : fitsB x = false := by simp [fitsB]; omega
theorem upto_yes {x m : Int} (h1 : 0 ≤ x) (h2 : x ≤ m) : uptoB x m = true := by simp [uptoB, h1, h2]
theorem upto_no {x m : Int} (h : ¬ (0 ≤ x ∧ x ≤ m)) : uptoB x m = false := by simp [uptoB]; omega
theorem specFits_any (x : Int) (w : World) : Calls Tryz.prog 103 #[.int .i64 x] w fun e w' => e = .returned (.bool (fitsB x)) ∧ w' = w := by
 by_cases h1 : -1073741823 ≤ x
 ·by_cases h2 : x ≤ 1073741823
  ·rw [fits_yes h1 h2]
   go_enter Tryz.func103, Tryz.ntmps103
   go_wp2
   go_ret
   exact ⟨rfl, rfl⟩
  ·rw [fits_no (by omega)]
   go_enter Tryz.func103, Tryz.ntmps103
   go_wp2
   go_ret
   exact ⟨rfl, rfl⟩
 ·rw [fits_no (by omega)]
  go_enter Tryz.func103, Tryz.ntmps103
  go_wp2
  go_ret
  exact ⟨rfl, rfl⟩
theorem implFits_any (x : Int) (w : World) : Calls Tryz.prog 58 #[.int .i64 x] w fun e w' => e = .returned (.bool (fitsB x)) ∧ w' = w := by
 by_cases h1 : -1073741823 ≤ x
 ·by_cases h2 : x ≤ 1073741823
  ·rw [fits_yes h1 h2]
   go_enter Tryz.func58, Tryz.ntmps58
   go_wp2
   go_ret
   exact ⟨rfl, rfl⟩
  ·rw [fits_no (by omega)]
   go_enter Tryz.func58, Tryz.ntmps58
   go_wp2
   go_ret
   exact ⟨rfl, rfl⟩
 ·rw [fits_no (by omega)]
  go_enter Tryz.func58, Tryz.ntmps58
  go_wp2
  go_ret
  exact ⟨rfl, rfl⟩
theorem specOrder_any (x : Int) (w : World) : Calls Tryz.prog 126 #[.int .i64 x] w fun e w' => e = .returned (.bool (uptoB x 3)) ∧ w' = w := by
 by_cases h1 : 0 ≤ x
 ·by_cases h2 : x ≤ 3
  ·rw [upto_yes h1 h2]
   go_enter Tryz.func126, Tryz.ntmps126
   go_wp2
   go_ret
   exact ⟨rfl, rfl⟩
  ·rw [upto_no (by omega)]
   go_enter Tryz.func126, Tryz.ntmps126
   go_wp2
   go_ret
   exact ⟨rfl, rfl⟩
 ·rw [upto_no (by omega)]
  go_enter Tryz.func126, Tryz.ntmps126
  go_wp2
  go_ret
  exact ⟨rfl, rfl⟩
theorem implOrder_any (x : Int) (w : World) : Calls Tryz.prog 118 #[.int .i64 x] w fun e w' => e = .returned (.bool (uptoB x 3)) ∧ w' = w := by
 by_cases h1 : 0 ≤ x
 ·by_cases h2 : x ≤ 3
  ·rw [upto_yes h1 h2]
   go_enter Tryz.func118, Tryz.ntmps118
   go_wp2
   go_ret
   exact ⟨rfl, rfl⟩
  ·rw [upto_no (by omega)]
   go_enter Tryz.func118, Tryz.ntmps118
   go_wp2
   go_ret
   exact ⟨rfl, rfl⟩
 ·rw [upto_no (by omega)]
  go_enter Tryz.func118, Tryz.ntmps118
  go_wp2
  go_ret
  exact ⟨rfl, rfl⟩
theorem upTo_any (x m : Int) (w : World) : Calls Tryz.prog 93 #[.int .i64 x, .int .i64 m] w fun e w' => e = .returned (.bool (uptoB x m)) ∧ w' = w := by
 by_cases h1 : 0 ≤ x
 ·by_cases h2 : x ≤ m
  ·rw [upto_yes h1 h2]
   go_enter Tryz.func93, Tryz.ntmps93
   go_wp2
   go_ret
   exact ⟨rfl, rfl⟩
  ·rw [upto_no (by omega)]
   go_enter Tryz.func93, Tryz.ntmps93
   go_wp2
   go_ret
   exact ⟨rfl, rfl⟩
 ·rw [upto_no (by omega)]
  go_enter Tryz.func93, Tryz.ntmps93
  go_wp2
  go_ret
  exact ⟨rfl, rfl⟩
theorem specGlueOk_any (s p po m mo : Int) (w : World) : Calls Tryz.prog 100 #[glueV s p po m mo] w fun e w' => e = .returned (.bool (glB s p po m mo)) ∧ Below w.heap.size w w' := by
 unfold glB
 cases h1 : fitsB s <;> cases h2 : fitsB p <;> cases h3 : fitsB m <;> cases h4 : uptoB po 3 <;> cases h5 : uptoB mo 3
 all_goals
  go_enter Tryz.func100, Tryz.ntmps100
  go_wp2_with (first
   | (go_at_call 103; refine (specFits_any _ _).mono ?_; rintro e w' ⟨rfl, rfl⟩)
   | (go_at_call 126; refine (specOrder_any _ _).mono ?_; rintro e w' ⟨rfl, rfl⟩))
  go_ret
  exact ⟨rfl, below1 _ _⟩
theorem implGlueOk_any (s p po m mo : Int) (w : World) : Calls Tryz.prog 89 #[glueV s p po m mo] w fun e w' => e = .returned (.bool (glB s p po m mo)) ∧ Below w.heap.size w w' := by
 unfold glB
 cases h1 : fitsB s <;> cases h2 : fitsB p <;> cases h3 : fitsB m <;> cases h4 : uptoB po 3 <;> cases h5 : uptoB mo 3
 all_goals
  go_enter Tryz.func89, Tryz.ntmps89
  go_wp2_with (first
   | (go_at_call 58; refine (implFits_any _ _).mono ?_; rintro e w' ⟨rfl, rfl⟩)
   | (go_at_call 118; refine (implOrder_any _ _).mono ?_; rintro e w' ⟨rfl, rfl⟩))
  go_ret
  exact ⟨rfl, below1 _ _⟩
abbrev sizeV (a b c : Int) : Value := .agg #[.int .i64 a, .int .i64 b, .int .i64 c]
theorem sizeFits_any (a b c : Int) (w : World) : Calls Tryz.prog 208 #[sizeV a b c] w fun e w' => e = .returned (.bool (fitsB a && fitsB b && fitsB c)) ∧ Below w.heap.size w w' := by
 cases h1 : fitsB a <;> cases h2 : fitsB b <;> cases h3 : fitsB c
 all_goals
  go_enter Tryz.func208, Tryz.ntmps208
  go_wp2_with (go_at_call 58; refine (implFits_any _ _).mono ?_; rintro e w' ⟨rfl, rfl⟩)
  go_ret
  exact ⟨rfl, below1 _ _⟩
theorem sizeOf_any (x : Nd) (w : World) : Calls Tryz.prog 55 #[ndV x] w fun e w' => e = .returned (sizeV x.wd x.ht x.dp) ∧ Below w.heap.size w w' := by
 obtain ⟨k, wd, ht, dp, sh, fo, ch, nn, gs, gp, gpo, gm, gmo, tx, kids⟩ := x
 simp only [ndV]
 go_enter Tryz.func55, Tryz.ntmps55
 go_wp2
 refine bodyPost_ret (v := sizeV wd ht dp) (by simp [results, Tryz.results55, go_sem]) rfl ⟨rfl, ?_⟩
 trace_state
 repeat (first | with_reducible exact below2 _ _ _ | with_reducible exact below3 _ _ _ _ | (with_reducible refine Below.setCell ?_ ?_ _; rotate_left; focus (first | (simp; done) | (simp; omega))))
def eqNd (x y : Nd) : Bool :=
 x.k == y.k && (x.wd == y.wd && (x.ht == y.ht && (x.dp == y.dp && (x.sh == y.sh && (x.fo == y.fo && (x.ch == y.ch && (x.nn == y.nn && ((x.gs == y.gs && (x.gp == y.gp && (x.gpo == y.gpo && (x.gm == y.gm && x.gmo == y.gmo)))) && (x.tx.toList == y.tx.toList && x.kids == y.kids)))))))))
def eqGl (a b c d e a' b' c' d' e' : Int) : Bool := a == a' && (b == b' && (c == c' && (d == d' && e == e')))
theorem run_glue (a b c d e a' b' c' d' e' : Int) (n : Nat) (w : World) : (Op.equalIn (n + 1 + 1) 34 (glueV a b c d e) (glueV a' b' c' d' e')).run Tryz.prog w = .ok (eqGl a b c d e a' b' c' d' e') w := by
 have u2 := Tryz.underlying2
 have hS : Tryz.prog.underlying 34 = some (.struct (Tryz.prog.fieldsOf 34)) := by kernel_rfl
 have hp : Tryz.prog.stoodInHeld 34 = false := by kernel_rfl
 rw [run_equalIn_agg w (n + 1) 34 _ _ hS hp]
 simp only [Program.fieldsOf, Tryz.underlying34]
 go_simp
 simp only [eqGl]
 by_cases h1 : a = a' <;> by_cases h2 : b = b' <;> by_cases h3 : c = c' <;> by_cases h4 : d = d' <;> by_cases h5 : e = e' <;> simp [h1, h2, h3, h4, h5]
theorem neqNode (x y : Nd) (w : World) : (binOp .neq 36 (ndV x) (ndV y)).run Tryz.prog w = .ok (.bool (!eqNd x y)) w := by
 obtain ⟨k, wd, ht, dp, sh, fo, ch, nn, gs, gp, gpo, gm, gmo, tx, kids⟩ := x
 obtain ⟨k', wd', ht', dp', sh', fo', ch', nn', gs', gp', gpo', gm', gmo', tx', kids'⟩ := y
 have u2 := Tryz.underlying2
 have u9 := Tryz.underlying9
 have hS : Tryz.prog.underlying 36 = some (.struct (Tryz.prog.fieldsOf 36)) := by kernel_rfl
 have hp : Tryz.prog.stoodInHeld 36 = false := by kernel_rfl
 have hg := fun n w => run_glue gs gp gpo gm gmo gs' gp' gpo' gm' gmo' n w
 simp only [ndV]
 rw [run_neq_struct, show (10000 : Nat) = 9999 + 1 from rfl, run_equalIn_agg w 9999 36 _ _ hS hp]
 simp only [Program.fieldsOf, Tryz.underlying36]
 go_simp
 simp only [eqNd]
 rw [show (gs == gs' && (gp == gp' && (gpo == gpo' && (gm == gm' && gmo == gmo')))) = eqGl gs gp gpo gm gmo gs' gp' gpo' gm' gmo' from rfl]
 generalize eqGl gs gp gpo gm gmo gs' gp' gpo' gm' gmo' = G
 clear hg hS hp
 by_cases h1 : k = k'
 ·by_cases h2 : wd = wd'
  ·by_cases h3 : ht = ht'
   ·by_cases h4 : dp = dp'
    ·by_cases h5 : sh = sh'
     ·by_cases h6 : fo = fo'
      ·by_cases h7 : ch = ch'
       ·by_cases h8 : nn = nn'
        ·cases G <;> by_cases h9 : tx.toList = tx'.toList <;> by_cases h10 : kids = kids' <;> simp [h1, h2, h3, h4, h5, h6, h7, h8, h9, h10]
        ·simp [h8]
       ·simp [h7]
      ·simp [h6]
     ·simp [h5]
    ·simp [h4]
   ·simp [h3]
  ·simp [h2]
 ·simp [h1]
theorem eqNd_iff (x y : Nd) : eqNd x y = true ↔ x = y := by
 obtain ⟨k, wd, ht, dp, sh, fo, ch, nn, gs, gp, gpo, gm, gmo, tx, kids⟩ := x
 obtain ⟨k', wd', ht', dp', sh', fo', ch', nn', gs', gp', gpo', gm', gmo', tx', kids'⟩ := y
 have ht : tx.toList = tx'.toList ↔ tx = tx' := by
  rw [ByteArray.toList_eq, ByteArray.toList_eq]
  obtain ⟨⟨a⟩⟩ := tx
  obtain ⟨⟨b⟩⟩ := tx'
  simp
 simp [eqNd, ht, and_assoc]
end Go.Proofs.YtojoehdmjkgnnaaGreat
