/-
  Nodes held against each other by the language's own comparison.
-/
import Derived.Test.YtjagagbelpihbaaNod
import Derived.Laws.StructEq
namespace Go.Proofs.Ytjagagbelpihbaa
open Go.RowKit
set_option linter.unusedVariables false
set_option linter.unusedSimpArgs false

/-- Field by field. -/
def eqNd (x y : Nd) : Bool :=
  x.k == y.k && (x.wd == y.wd && (x.ht == y.ht && (x.dp == y.dp && (x.sh == y.sh && (x.fo == y.fo && (x.ch == y.ch && (x.nn == y.nn && ((x.gs == y.gs && (x.gp == y.gp && (x.gpo == y.gpo && (x.gm == y.gm && x.gmo == y.gmo)))) && (x.tx.toList == y.tx.toList && x.kids == y.kids)))))))))

def eqGl (a b c d e a' b' c' d' e' : Int) : Bool := a == a' && (b == b' && (c == c' && (d == d' && e == e')))

theorem run_glue (a b c d e a' b' c' d' e' : Int) (n : Nat) (w : World) : (Op.equalIn (n + 1 + 1) 40 (glueV a b c d e) (glueV a' b' c' d' e')).run Try.prog w = .ok (eqGl a b c d e a' b' c' d' e') w := by
  have u2 := Try.underlying2
  have hS : Try.prog.underlying 40 = some (.struct (Try.prog.fieldsOf 40)) := by kernel_rfl
  have hp : Try.prog.stoodInHeld 40 = false := by kernel_rfl
  rw [run_equalIn_agg w (n + 1) 40 _ _ hS hp]
  simp only [Program.fieldsOf, Try.underlying40]
  go_simp
  simp only [eqGl]
  by_cases h1 : a = a' <;> by_cases h2 : b = b' <;> by_cases h3 : c = c' <;> by_cases h4 : d = d' <;> by_cases h5 : e = e' <;> simp [h1, h2, h3, h4, h5]

theorem neqNode (x y : Nd) (w : World) : (binOp .neq 60 (ndV x) (ndV y)).run Try.prog w = .ok (.bool (!eqNd x y)) w := by
  obtain ⟨k, wd, ht, dp, sh, fo, ch, nn, gs, gp, gpo, gm, gmo, tx, kids⟩ := x
  obtain ⟨k', wd', ht', dp', sh', fo', ch', nn', gs', gp', gpo', gm', gmo', tx', kids'⟩ := y
  have u2 := Try.underlying2
  have u9 := Try.underlying9
  have hS : Try.prog.underlying 60 = some (.struct (Try.prog.fieldsOf 60)) := by kernel_rfl
  have hp : Try.prog.stoodInHeld 60 = false := by kernel_rfl
  have hg := fun n w => run_glue gs gp gpo gm gmo gs' gp' gpo' gm' gmo' n w
  simp only [ndV]
  rw [run_neq_struct, show (10000 : Nat) = 9999 + 1 from rfl, run_equalIn_agg w 9999 60 _ _ hS hp]
  simp only [Program.fieldsOf, Try.underlying60]
  go_simp
  simp only [eqNd]
  rw [show (gs == gs' && (gp == gp' && (gpo == gpo' && (gm == gm' && gmo == gmo')))) = eqGl gs gp gpo gm gmo gs' gp' gpo' gm' gmo' from rfl]
  generalize eqGl gs gp gpo gm gmo gs' gp' gpo' gm' gmo' = G
  clear hg hS hp
  by_cases h1 : k = k'
  · by_cases h2 : wd = wd'
    · by_cases h3 : ht = ht'
      · by_cases h4 : dp = dp'
        · by_cases h5 : sh = sh'
          · by_cases h6 : fo = fo'
            · by_cases h7 : ch = ch'
              · by_cases h8 : nn = nn'
                · cases G <;> by_cases h9 : tx.toList = tx'.toList <;> by_cases h10 : kids = kids' <;> simp [h1, h2, h3, h4, h5, h6, h7, h8, h9, h10]
                · simp [h8]
              · simp [h7]
            · simp [h6]
          · simp [h5]
        · simp [h4]
      · simp [h3]
    · simp [h2]
  · simp [h1]

theorem eqNd_iff (x y : Nd) : eqNd x y = true ↔ x = y := by
  obtain ⟨k, wd, ht, dp, sh, fo, ch, nn, gs, gp, gpo, gm, gmo, tx, kids⟩ := x
  obtain ⟨k', wd', ht', dp', sh', fo', ch', nn', gs', gp', gpo', gm', gmo', tx', kids'⟩ := y
  have ht : tx.toList = tx'.toList ↔ tx = tx' := by
    rw [ByteArray.toList_eq, ByteArray.toList_eq]
    obtain ⟨⟨a⟩⟩ := tx
    obtain ⟨⟨b⟩⟩ := tx'
    simp
  simp [eqNd, ht, and_assoc]
end Go.Proofs.Ytjagagbelpihbaa
