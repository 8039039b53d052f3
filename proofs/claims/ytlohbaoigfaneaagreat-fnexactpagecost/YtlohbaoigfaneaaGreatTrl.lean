import Derived.Test.YtlohbaoigfaneaaGreatTad
import Derived.Test.YtlohbaoigfaneaaGreatLmp
import Derived.Test.YtlohbaoigfaneaaGreatSme
import Derived.Test.YtlohbaoigfaneaaGreatSpf
import Derived.Test.YtlohbaoigfaneaaGreatMak
import Derived.RangeFuncFrom
import Derived.RangeFuncWrites
import Derived.Test.YtlohbaoigfaneaaGreatNdo
import Derived.Test.YtlohbaoigfaneaaGreatBrk
namespace Go.Proofs.YtlohbaoigfaneaaGreat
open Go.RowKit
set_option linter.unusedVariables false
set_option linter.unusedSimpArgs false
theorem build_118 (a b c d e f g h i j : Int) (W : World) : (Instr.build 118 #[(0, .agg #[.int .i64 a, .int .i64 b, .int .i64 c, .int .i64 d, .int .i64 e, .int .i64 f, .int .i64 g, .int .i64 h, .int .i64 i]), (1, .int .i64 j)]).run Tryz.prog W = .ok (.agg #[.int .i64 a, .int .i64 b, .int .i64 c, .int .i64 d, .int .i64 e, .int .i64 f, .int .i64 g, .int .i64 h, .int .i64 i, .int .i64 j]) W := by kernel_rfl
theorem build_118op {A : Act} {oi : Oper} {p q : Operand} {a b c d e f g h i j : Int} (ho : oi.op = Op.build 118 #[(0, p), (1, q)]) (hp : A.eval p = .agg #[.int .i64 a, .int .i64 b, .int .i64 c, .int .i64 d, .int .i64 e, .int .i64 f, .int .i64 g, .int .i64 h, .int .i64 i]) (hq : A.eval q = .int .i64 j) (W : World) : (execOp A.eval oi).run Tryz.prog W = .ok (.value (.agg #[.int .i64 a, .int .i64 b, .int .i64 c, .int .i64 d, .int .i64 e, .int .i64 f, .int .i64 g, .int .i64 h, .int .i64 i, .int .i64 j])) W := by
 unfold execOp
 simp only [ho, List.map_toArray, List.map_cons, List.map_nil, hp, hq, Sem.run_bind, build_118, Result.andThen_ok, Sem.run_pure]
theorem cell_of_heap {w X : World} {B : Nat} (h : X.heap[B]? = w.heap[B]?) {j : Nat} : X.cell? ⟨B, j, none⟩ = w.cell? ⟨B, j, none⟩ := by
 unfold World.cell?
 simp only [h]
def whoI (hn : Bool) (A L : List Int) (gs gp : Int) (pn : Nat) (gm : Int) (mn : Nat) : List Int := if hn = true then glA 0 pn mn gs gp gm (pluTo (A.take 9) (L.take 9) 4 ++ [L.getD 9 0]) else A
theorem whoI_len (hn : Bool) {A L : List Int} (hA : A.length = 10) (gs gp : Int) (pn : Nat) (gm : Int) (mn : Nat) : (whoI hn A L gs gp pn gm mn).length = 10 := by
 unfold whoI
 split
 ·rw [glA_len]; simp [pluTo_len, hA]
 ·exact hA
set_option maxRecDepth 20000 in
set_option maxHeartbeats 8000000 in
theorem whole_any {w : World} {B : Nat} {tt pr co hg : Int} {em hn : Bool} {A L : List Int} (h : TriA w B tt pr co em hn A L hg) (gs gp gm : Int) (pn mn : Nat) (hp : pn < 4) (hm : mn < 4) :
 Calls Tryz.prog 95 #[.pointer (some ⟨B, 0, none⟩), glueV gs gp (pn : Int) gm (mn : Int)] w fun e w' => e = .returned (Shr.mea (whoI hn A L gs gp pn gm mn)) ∧ Below w.heap.size w w' := by
 have hB := h.lt
 have hB1 : B < w.heap.size + 1 := by omega
 have hB2 : B < w.heap.size + 1 + 1 := by omega
 have hB3 : ¬ B = w.heap.size := by omega
 have hB4 : ¬ B = w.heap.size + 1 := by omega
 obtain ⟨hA, hL, hrow⟩ := h
 obtain ⟨a0, a1, a2, a3, a4, a5, a6, a7, a8, a9, rfl⟩ := ten_of A hA
 obtain ⟨l0, l1, l2, l3, l4, l5, l6, l7, l8, l9, rfl⟩ := ten_of L hL
 have hrow : w.heap[B]? = some (.cells #[.int .i64 tt, .int .i64 pr, .int .i64 co, .bool em, .bool hn, .int .i64 a0, .int .i64 a1, .int .i64 a2, .int .i64 a3, .int .i64 a4, .int .i64 a5, .int .i64 a6, .int .i64 a7, .int .i64 a8, .int .i64 a9, .int .i64 l0, .int .i64 l1, .int .i64 l2, .int .i64 l3, .int .i64 l4, .int .i64 l5, .int .i64 l6, .int .i64 l7, .int .i64 l8, .int .i64 l9, .int .i64 hg] 120 (0, 0)) := hrow
 have q4 : w.cell? ⟨B, 4, none⟩ = some (.bool hn) := by rw [cell_of_row _ _ _ _ 120 _ hrow]; rfl
 have q5 : w.cell? ⟨B, 5, none⟩ = some (.int .i64 a0) := by rw [cell_of_row _ _ _ _ 120 _ hrow]; rfl
 have q6 : w.cell? ⟨B, 6, none⟩ = some (.int .i64 a1) := by rw [cell_of_row _ _ _ _ 120 _ hrow]; rfl
 have q7 : w.cell? ⟨B, 7, none⟩ = some (.int .i64 a2) := by rw [cell_of_row _ _ _ _ 120 _ hrow]; rfl
 have q8 : w.cell? ⟨B, 8, none⟩ = some (.int .i64 a3) := by rw [cell_of_row _ _ _ _ 120 _ hrow]; rfl
 have q9 : w.cell? ⟨B, 9, none⟩ = some (.int .i64 a4) := by rw [cell_of_row _ _ _ _ 120 _ hrow]; rfl
 have q10 : w.cell? ⟨B, 10, none⟩ = some (.int .i64 a5) := by rw [cell_of_row _ _ _ _ 120 _ hrow]; rfl
 have q11 : w.cell? ⟨B, 11, none⟩ = some (.int .i64 a6) := by rw [cell_of_row _ _ _ _ 120 _ hrow]; rfl
 have q12 : w.cell? ⟨B, 12, none⟩ = some (.int .i64 a7) := by rw [cell_of_row _ _ _ _ 120 _ hrow]; rfl
 have q13 : w.cell? ⟨B, 13, none⟩ = some (.int .i64 a8) := by rw [cell_of_row _ _ _ _ 120 _ hrow]; rfl
 have q14 : w.cell? ⟨B, 14, none⟩ = some (.int .i64 a9) := by rw [cell_of_row _ _ _ _ 120 _ hrow]; rfl
 have q15 : w.cell? ⟨B, 15, none⟩ = some (.int .i64 l0) := by rw [cell_of_row _ _ _ _ 120 _ hrow]; rfl
 have q16 : w.cell? ⟨B, 16, none⟩ = some (.int .i64 l1) := by rw [cell_of_row _ _ _ _ 120 _ hrow]; rfl
 have q17 : w.cell? ⟨B, 17, none⟩ = some (.int .i64 l2) := by rw [cell_of_row _ _ _ _ 120 _ hrow]; rfl
 have q18 : w.cell? ⟨B, 18, none⟩ = some (.int .i64 l3) := by rw [cell_of_row _ _ _ _ 120 _ hrow]; rfl
 have q19 : w.cell? ⟨B, 19, none⟩ = some (.int .i64 l4) := by rw [cell_of_row _ _ _ _ 120 _ hrow]; rfl
 have q20 : w.cell? ⟨B, 20, none⟩ = some (.int .i64 l5) := by rw [cell_of_row _ _ _ _ 120 _ hrow]; rfl
 have q21 : w.cell? ⟨B, 21, none⟩ = some (.int .i64 l6) := by rw [cell_of_row _ _ _ _ 120 _ hrow]; rfl
 have q22 : w.cell? ⟨B, 22, none⟩ = some (.int .i64 l7) := by rw [cell_of_row _ _ _ _ 120 _ hrow]; rfl
 have q23 : w.cell? ⟨B, 23, none⟩ = some (.int .i64 l8) := by rw [cell_of_row _ _ _ _ 120 _ hrow]; rfl
 have q24 : w.cell? ⟨B, 24, none⟩ = some (.int .i64 l9) := by rw [cell_of_row _ _ _ _ 120 _ hrow]; rfl
 have HR := hideP hrow
 clear hA hL hrow
 cases hn with
 | false =>
  have HE : Hid (Shr.mea (whoI false [a0, a1, a2, a3, a4, a5, a6, a7, a8, a9] [l0, l1, l2, l3, l4, l5, l6, l7, l8, l9] gs gp pn gm mn) = .agg #[.int .i64 a0, .int .i64 a1, .int .i64 a2, .int .i64 a3, .int .i64 a4, .int .i64 a5, .int .i64 a6, .int .i64 a7, .int .i64 a8, .int .i64 a9]) := hideP rfl
  rw [HE.out]
  simp only [glueV]
  clear q15 q16 q17 q18 q19 q20 q21 q22 q23 q24 HR
  go_enter Tryz.func95, Tryz.ntmps95
  go_wp2
  obtain ⟨W3, hW3⟩ : ∃ W, W = (w.alloc (.cells #[.int .i64 gs, .int .i64 gp, .int .i64 (pn : Int), .int .i64 gm, .int .i64 (mn : Int)] 33)).alloc (.cells #[.int .i64 a0, .int .i64 a1, .int .i64 a2, .int .i64 a3, .int .i64 a4, .int .i64 a5, .int .i64 a6, .int .i64 a7, .int .i64 a8, .int .i64 a9] 118) := ⟨_, rfl⟩
  have R2 : W3.heap[w.heap.size + 1]? = some (.cells #[.int .i64 a0, .int .i64 a1, .int .i64 a2, .int .i64 a3, .int .i64 a4, .int .i64 a5, .int .i64 a6, .int .i64 a7, .int .i64 a8, .int .i64 a9] 118 (0, 0)) := by rw [hW3]; have := heap_alloc_new (w.alloc (.cells #[.int .i64 gs, .int .i64 gp, .int .i64 (pn : Int), .int .i64 gm, .int .i64 (mn : Int)] 33)) (.cells #[.int .i64 a0, .int .i64 a1, .int .i64 a2, .int .i64 a3, .int .i64 a4, .int .i64 a5, .int .i64 a6, .int .i64 a7, .int .i64 a8, .int .i64 a9] 118); simpa using this
  have B2 : Below w.heap.size w W3 := by rw [hW3]; exact ((Below.refl _ _).alloc (Nat.le_refl _) _).alloc (by simp) _
  rw [← hW3]
  exact bodyPost_ret (v := .agg #[.int .i64 a0, .int .i64 a1, .int .i64 a2, .int .i64 a3, .int .i64 a4, .int .i64 a5, .int .i64 a6, .int .i64 a7, .int .i64 a8, .int .i64 a9]) (results_cell_row rfl _ _ (w.heap.size + 1) 118 _ (0, 0) _ rfl R2 Tryz.underlying118 rfl (by kernel_rfl)) rfl ⟨rfl, B2⟩
 | true =>
  have PC : Hid (∀ W, Calls Tryz.prog 115 #[.agg #[.int .i64 a0, .int .i64 a1, .int .i64 a2, .int .i64 a3, .int .i64 a4, .int .i64 a5, .int .i64 a6, .int .i64 a7, .int .i64 a8], .agg #[.int .i64 l0, .int .i64 l1, .int .i64 l2, .int .i64 l3, .int .i64 l4, .int .i64 l5, .int .i64 l6, .int .i64 l7, .int .i64 l8]] W fun e w' => e = .returned (Shr.mea (pluTo [a0, a1, a2, a3, a4, a5, a6, a7, a8] [l0, l1, l2, l3, l4, l5, l6, l7, l8] 4)) ∧ Below W.heap.size W w') := hideP (fun W => plusAll_any [a0, a1, a2, a3, a4, a5, a6, a7, a8] [l0, l1, l2, l3, l4, l5, l6, l7, l8] rfl rfl W)
  have hzl : (pluTo [a0, a1, a2, a3, a4, a5, a6, a7, a8] [l0, l1, l2, l3, l4, l5, l6, l7, l8] 4).length = 9 := by rw [pluTo_len]; rfl
  have HE : Hid (whoI true [a0, a1, a2, a3, a4, a5, a6, a7, a8, a9] [l0, l1, l2, l3, l4, l5, l6, l7, l8, l9] gs gp pn gm mn = glA 0 pn mn gs gp gm (pluTo [a0, a1, a2, a3, a4, a5, a6, a7, a8] [l0, l1, l2, l3, l4, l5, l6, l7, l8] 4 ++ [l9])) := hideP rfl
  obtain ⟨Z, hZ⟩ : ∃ Z, Z = pluTo [a0, a1, a2, a3, a4, a5, a6, a7, a8] [l0, l1, l2, l3, l4, l5, l6, l7, l8] 4 := ⟨_, rfl⟩
  rw [← hZ] at PC hzl HE
  clear hZ
  obtain ⟨z0, z1, z2, z3, z4, z5, z6, z7, z8, rfl⟩ := mea_nine Z hzl
  simp only [Shr.mea, List.map_cons, List.map_nil] at PC
  obtain ⟨F, hF⟩ : ∃ F, F = whoI true [a0, a1, a2, a3, a4, a5, a6, a7, a8, a9] [l0, l1, l2, l3, l4, l5, l6, l7, l8, l9] gs gp pn gm mn := ⟨_, rfl⟩
  have hFl : F.length = 10 := by rw [hF]; exact whoI_len _ rfl _ _ _ _ _
  rw [← hF] at HE ⊢
  clear hF hzl
  have GC : Hid (∀ W R, IntsL W R 118 [z0, z1, z2, z3, z4, z5, z6, z7, z8, l9] → Calls Tryz.prog 77 #[.pointer (some ⟨R, 0, none⟩), .agg #[.int .i64 gs, .int .i64 gp, .int .i64 (pn : Int), .int .i64 gm, .int .i64 (mn : Int)]] W fun e w' => (∃ v, e = .returned v) ∧ IntsL w' R 118 F ∧ Fr R W w') := hideP (fun W R hW => by rw [HE.out]; exact addGlueL_any 0 pn mn gs gp gm hW (by simp) hp hm)
  obtain ⟨y0, y1, y2, y3, y4, y5, y6, y7, y8, y9, rfl⟩ := ten_of F hFl
  clear hFl HE hp hm
  simp only [glueV, Shr.mea, List.map_cons, List.map_nil]
  go_enter Tryz.func95, Tryz.ntmps95
  go_upto_region 3 with fail
  obtain ⟨g, hge⟩ : ∃ g, g = w.heap.size := ⟨_, rfl⟩
  obtain ⟨V, hV⟩ : ∃ X, X = (w.alloc (.cells #[.int .i64 gs, .int .i64 gp, .int .i64 (pn : Int), .int .i64 gm, .int .i64 (mn : Int)] 33)).alloc (.cells #[.int .i64 0, .int .i64 0, .int .i64 0, .int .i64 0, .int .i64 0, .int .i64 0, .int .i64 0, .int .i64 0, .int .i64 0, .int .i64 0] 118) := ⟨_, rfl⟩
  have BW : Hid (Below w.heap.size w V) := hideP (by rw [hV]; exact ((Below.refl _ _).alloc (Nat.le_refl _) _).alloc (by simp) _)
  have HG : Hid (V.heap[g]? = some (.cells #[.int .i64 gs, .int .i64 gp, .int .i64 (pn : Int), .int .i64 gm, .int .i64 (mn : Int)] 33 (0, 0))) := hideP (by rw [hV, hge]; exact (Below.heap_alloc _ _ _ (by simp)).trans (heap_alloc_new _ _))
  have HRR : Hid (V.heap[g + 1]? = some (.cells #[.int .i64 0, .int .i64 0, .int .i64 0, .int .i64 0, .int .i64 0, .int .i64 0, .int .i64 0, .int .i64 0, .int .i64 0, .int .i64 0] 118 (0, 0))) := hideP (by rw [hV, hge]; have := heap_alloc_new (w.alloc (.cells #[.int .i64 gs, .int .i64 gp, .int .i64 (pn : Int), .int .i64 gm, .int .i64 (mn : Int)] 33)) (.cells #[.int .i64 0, .int .i64 0, .int .i64 0, .int .i64 0, .int .i64 0, .int .i64 0, .int .i64 0, .int .i64 0, .int .i64 0, .int .i64 0] 118); simpa using this)
  have hgL := (Array.getElem?_eq_some_iff.1 HG.out).1
  have hrL := (Array.getElem?_eq_some_iff.1 HRR.out).1
  have hBg : B < g := by omega
  have hBL : B < V.heap.size := by omega
  have HVB : Hid (V.heap[B]? = some (.cells #[.int .i64 tt, .int .i64 pr, .int .i64 co, .bool em, .bool true, .int .i64 a0, .int .i64 a1, .int .i64 a2, .int .i64 a3, .int .i64 a4, .int .i64 a5, .int .i64 a6, .int .i64 a7, .int .i64 a8, .int .i64 a9, .int .i64 l0, .int .i64 l1, .int .i64 l2, .int .i64 l3, .int .i64 l4, .int .i64 l5, .int .i64 l6, .int .i64 l7, .int .i64 l8, .int .i64 l9, .int .i64 hg] 120 (0, 0))) := hideP ((BW.out.block B hB).trans HR.out)
  rw [← hV, ← hge]
  have HGE := hideP hge
  clear hV hge
  have HSt : Hid (∀ X, Below V.heap.size V X → (fun Y : World => Y.cell? ⟨B, 5, none⟩ = some (.int .i64 a0) ∧ Y.cell? ⟨B, 6, none⟩ = some (.int .i64 a1) ∧ Y.cell? ⟨B, 7, none⟩ = some (.int .i64 a2) ∧ Y.cell? ⟨B, 8, none⟩ = some (.int .i64 a3) ∧ Y.cell? ⟨B, 9, none⟩ = some (.int .i64 a4) ∧ Y.cell? ⟨B, 10, none⟩ = some (.int .i64 a5) ∧ Y.cell? ⟨B, 11, none⟩ = some (.int .i64 a6) ∧ Y.cell? ⟨B, 12, none⟩ = some (.int .i64 a7) ∧ Y.cell? ⟨B, 13, none⟩ = some (.int .i64 a8) ∧ Y.cell? ⟨B, 15, none⟩ = some (.int .i64 l0) ∧ Y.cell? ⟨B, 16, none⟩ = some (.int .i64 l1) ∧ Y.cell? ⟨B, 17, none⟩ = some (.int .i64 l2) ∧ Y.cell? ⟨B, 18, none⟩ = some (.int .i64 l3) ∧ Y.cell? ⟨B, 19, none⟩ = some (.int .i64 l4) ∧ Y.cell? ⟨B, 20, none⟩ = some (.int .i64 l5) ∧ Y.cell? ⟨B, 21, none⟩ = some (.int .i64 l6) ∧ Y.cell? ⟨B, 22, none⟩ = some (.int .i64 l7) ∧ Y.cell? ⟨B, 23, none⟩ = some (.int .i64 l8) ∧ Y.cell? ⟨B, 24, none⟩ = some (.int .i64 l9)) X) := hideP (fun X hX => by
   have e1 := (hX.block B hBL).trans HVB.out
   refine ⟨?_, ?_, ?_, ?_, ?_, ?_, ?_, ?_, ?_, ?_, ?_, ?_, ?_, ?_, ?_, ?_, ?_, ?_, ?_⟩ <;> (rw [cell_of_row _ _ _ _ 120 _ e1]; rfl))
  obtain ⟨L, hL⟩ : ∃ L, L = V.heap.size := ⟨_, rfl⟩
  have HLE := hideP hL
  clear hL hB hB1 hB2 hB3 hB4 q4 q5 q6 q7 q8 q9 q10 q11 q12 q13 q14 q15 q16 q17 q18 q19 q20 q21 q22 q23 q24
  have hS : (fun Y : World => Y.cell? ⟨B, 5, none⟩ = some (.int .i64 a0) ∧ Y.cell? ⟨B, 6, none⟩ = some (.int .i64 a1) ∧ Y.cell? ⟨B, 7, none⟩ = some (.int .i64 a2) ∧ Y.cell? ⟨B, 8, none⟩ = some (.int .i64 a3) ∧ Y.cell? ⟨B, 9, none⟩ = some (.int .i64 a4) ∧ Y.cell? ⟨B, 10, none⟩ = some (.int .i64 a5) ∧ Y.cell? ⟨B, 11, none⟩ = some (.int .i64 a6) ∧ Y.cell? ⟨B, 12, none⟩ = some (.int .i64 a7) ∧ Y.cell? ⟨B, 13, none⟩ = some (.int .i64 a8) ∧ Y.cell? ⟨B, 15, none⟩ = some (.int .i64 l0) ∧ Y.cell? ⟨B, 16, none⟩ = some (.int .i64 l1) ∧ Y.cell? ⟨B, 17, none⟩ = some (.int .i64 l2) ∧ Y.cell? ⟨B, 18, none⟩ = some (.int .i64 l3) ∧ Y.cell? ⟨B, 19, none⟩ = some (.int .i64 l4) ∧ Y.cell? ⟨B, 20, none⟩ = some (.int .i64 l5) ∧ Y.cell? ⟨B, 21, none⟩ = some (.int .i64 l6) ∧ Y.cell? ⟨B, 22, none⟩ = some (.int .i64 l7) ∧ Y.cell? ⟨B, 23, none⟩ = some (.int .i64 l8) ∧ Y.cell? ⟨B, 24, none⟩ = some (.int .i64 l9)) V.drew := HSt.out _ (Below.drew (Below.refl _ _))
  refine wp_region_held_drew (S := (fun Y : World => Y.cell? ⟨B, 5, none⟩ = some (.int .i64 a0) ∧ Y.cell? ⟨B, 6, none⟩ = some (.int .i64 a1) ∧ Y.cell? ⟨B, 7, none⟩ = some (.int .i64 a2) ∧ Y.cell? ⟨B, 8, none⟩ = some (.int .i64 a3) ∧ Y.cell? ⟨B, 9, none⟩ = some (.int .i64 a4) ∧ Y.cell? ⟨B, 10, none⟩ = some (.int .i64 a5) ∧ Y.cell? ⟨B, 11, none⟩ = some (.int .i64 a6) ∧ Y.cell? ⟨B, 12, none⟩ = some (.int .i64 a7) ∧ Y.cell? ⟨B, 13, none⟩ = some (.int .i64 a8) ∧ Y.cell? ⟨B, 15, none⟩ = some (.int .i64 l0) ∧ Y.cell? ⟨B, 16, none⟩ = some (.int .i64 l1) ∧ Y.cell? ⟨B, 17, none⟩ = some (.int .i64 l2) ∧ Y.cell? ⟨B, 18, none⟩ = some (.int .i64 l3) ∧ Y.cell? ⟨B, 19, none⟩ = some (.int .i64 l4) ∧ Y.cell? ⟨B, 20, none⟩ = some (.int .i64 l5) ∧ Y.cell? ⟨B, 21, none⟩ = some (.int .i64 l6) ∧ Y.cell? ⟨B, 22, none⟩ = some (.int .i64 l7) ∧ Y.cell? ⟨B, 23, none⟩ = some (.int .i64 l8) ∧ Y.cell? ⟨B, 24, none⟩ = some (.int .i64 l9))) (by kernel_rfl) hS (fun hS => ?_)
  obtain ⟨v0, hv0⟩ : ∃ X, X = V.drew := ⟨_, rfl⟩
  have b0 : Below V.heap.size V v0 := by rw [hv0]; exact Below.drew (Below.refl _ _)
  rw [← hv0] at hS ⊢
  clear hv0
  refine tkS (i := 0) (v := .pointer (some ⟨B, 0, none⟩)) rfl hS ?_
  try simp only [Act.put, List.getElem_toArray, List.getElem_cons_zero, List.getElem_cons_succ, List.setIfInBounds_toArray, List.set_cons_zero, List.set_cons_succ]
  refine tkS (i := 1) (v := .pointer (some ⟨B, 0, none⟩)) rfl hS ?_
  try simp only [Act.put, List.getElem_toArray, List.getElem_cons_zero, List.getElem_cons_succ, List.setIfInBounds_toArray, List.set_cons_zero, List.set_cons_succ]
  refine tkS (i := 2) (v := .pointer (some ⟨B, 5, none⟩)) rfl hS ?_
  try simp only [Act.put, List.getElem_toArray, List.getElem_cons_zero, List.getElem_cons_succ, List.setIfInBounds_toArray, List.set_cons_zero, List.set_cons_succ]
  refine tkS (i := 3) (v := .pointer (some ⟨B, 5, none⟩)) rfl hS ?_
  try simp only [Act.put, List.getElem_toArray, List.getElem_cons_zero, List.getElem_cons_succ, List.setIfInBounds_toArray, List.set_cons_zero, List.set_cons_succ]
  refine tkS (i := 4) (v := .agg #[.int .i64 a0, .int .i64 a1, .int .i64 a2, .int .i64 a3, .int .i64 a4, .int .i64 a5, .int .i64 a6, .int .i64 a7, .int .i64 a8]) rfl hS ?_
  try simp only [Act.put, List.getElem_toArray, List.getElem_cons_zero, List.getElem_cons_succ, List.setIfInBounds_toArray, List.set_cons_zero, List.set_cons_succ]
  refine tkS (i := 5) (v := .pointer (some ⟨B, 0, none⟩)) rfl hS ?_
  try simp only [Act.put, List.getElem_toArray, List.getElem_cons_zero, List.getElem_cons_succ, List.setIfInBounds_toArray, List.set_cons_zero, List.set_cons_succ]
  refine tkS (i := 6) (v := .pointer (some ⟨B, 0, none⟩)) rfl hS ?_
  try simp only [Act.put, List.getElem_toArray, List.getElem_cons_zero, List.getElem_cons_succ, List.setIfInBounds_toArray, List.set_cons_zero, List.set_cons_succ]
  refine tkS (i := 7) (v := .pointer (some ⟨B, 15, none⟩)) rfl hS ?_
  try simp only [Act.put, List.getElem_toArray, List.getElem_cons_zero, List.getElem_cons_succ, List.setIfInBounds_toArray, List.set_cons_zero, List.set_cons_succ]
  refine tkS (i := 8) (v := .pointer (some ⟨B, 15, none⟩)) rfl hS ?_
  try simp only [Act.put, List.getElem_toArray, List.getElem_cons_zero, List.getElem_cons_succ, List.setIfInBounds_toArray, List.set_cons_zero, List.set_cons_succ]
  refine tkS (i := 9) (v := .agg #[.int .i64 l0, .int .i64 l1, .int .i64 l2, .int .i64 l3, .int .i64 l4, .int .i64 l5, .int .i64 l6, .int .i64 l7, .int .i64 l8]) rfl hS ?_
  try simp only [Act.put, List.getElem_toArray, List.getElem_cons_zero, List.getElem_cons_succ, List.setIfInBounds_toArray, List.set_cons_zero, List.set_cons_succ]
  refine tkS (i := 11) (v := .pointer (some ⟨B, 0, none⟩)) rfl hS ?_
  try simp only [Act.put, List.getElem_toArray, List.getElem_cons_zero, List.getElem_cons_succ, List.setIfInBounds_toArray, List.set_cons_zero, List.set_cons_succ]
  refine tkS (i := 12) (v := .pointer (some ⟨B, 0, none⟩)) rfl hS ?_
  try simp only [Act.put, List.getElem_toArray, List.getElem_cons_zero, List.getElem_cons_succ, List.setIfInBounds_toArray, List.set_cons_zero, List.set_cons_succ]
  refine tkS (i := 13) (v := .pointer (some ⟨B, 15, none⟩)) rfl hS ?_
  try simp only [Act.put, List.getElem_toArray, List.getElem_cons_zero, List.getElem_cons_succ, List.setIfInBounds_toArray, List.set_cons_zero, List.set_cons_succ]
  refine tkS (i := 14) (v := .pointer (some ⟨B, 24, none⟩)) rfl hS ?_
  try simp only [Act.put, List.getElem_toArray, List.getElem_cons_zero, List.getElem_cons_succ, List.setIfInBounds_toArray, List.set_cons_zero, List.set_cons_succ]
  refine tkS (i := 15) (v := .int .i64 l9) rfl hS ?_
  try simp only [Act.put, List.getElem_toArray, List.getElem_cons_zero, List.getElem_cons_succ, List.setIfInBounds_toArray, List.set_cons_zero, List.set_cons_succ]
  refine wpAnyH_ready (rs := [10, 17]) (by kernel_rfl) (by simp) ?_
  refine AllReadyH.cons rfl (fun K hK => ?_) (AllReadyH.cons rfl (fun K hK => ?_) AllReadyH.nil)
  ·rw [if_pos (by first | rfl | go_simp)]
   go_simp
   go_at_call 115
   refine (PC.out v0).mono ?_
   rintro e v1 ⟨rfl, hc⟩
   have b1 : Below V.heap.size V v1 := below_more b0 hc b0.size
   refine hK.out _ _ (HSt.out v1 b1) (fun _ => ?_)
   try simp only [Act.put, List.getElem_toArray, List.getElem_cons_zero, List.getElem_cons_succ, List.setIfInBounds_toArray, List.set_cons_zero, List.set_cons_succ]
   clear hK K
   refine tkS (i := 16) (v := .agg #[.int .i64 z0, .int .i64 z1, .int .i64 z2, .int .i64 z3, .int .i64 z4, .int .i64 z5, .int .i64 z6, .int .i64 z7, .int .i64 z8, .int .i64 l9]) rfl (HSt.out v1 b1) ?_ (hr := fun wx hx => build_118op (p := .tmp 25) (q := .tmp 30) rfl rfl rfl wx)
   try simp only [Act.put, List.getElem_toArray, List.getElem_cons_zero, List.getElem_cons_succ, List.setIfInBounds_toArray, List.set_cons_zero, List.set_cons_succ]
   refine rdS (i := 17) rfl (fun K hK => ?_)
   go_simp
   obtain ⟨P, hP⟩ : ∃ P, P = v1.heap.size := ⟨_, rfl⟩
   obtain ⟨v2, hv2⟩ : ∃ X, X = v1.alloc (.cells #[.int .i64 0, .int .i64 0, .int .i64 0, .int .i64 0, .int .i64 0, .int .i64 0, .int .i64 0, .int .i64 0, .int .i64 0, .int .i64 0] 118) := ⟨_, rfl⟩
   have hz : v2.heap[P]? = some (.cells #[.int .i64 0, .int .i64 0, .int .i64 0, .int .i64 0, .int .i64 0, .int .i64 0, .int .i64 0, .int .i64 0, .int .i64 0, .int .i64 0] 118 (0, 0)) := by rw [hv2, hP]; exact heap_alloc_new _ _
   have b2 : Below V.heap.size V v2 := by rw [hv2]; exact b1.alloc b1.size _
   have hPL : V.heap.size ≤ P := by rw [hP]; exact b1.size
   rw [← hv2, ← hP]
   clear hv2 hP
   refine hK.out _ _ (HSt.out v2 b2) (fun _ => ?_)
   try simp only [Act.put, List.getElem_toArray, List.getElem_cons_zero, List.getElem_cons_succ, List.setIfInBounds_toArray, List.set_cons_zero, List.set_cons_succ]
   clear hK K
   clear b1 hc
   have p0 : v2.cell? ⟨P, 0, none⟩ = some (.int .i64 0) := by rw [cell_of_row _ _ _ _ 118 _ hz]; rfl
   have p1 : v2.cell? ⟨P, 1, none⟩ = some (.int .i64 0) := by rw [cell_of_row _ _ _ _ 118 _ hz]; rfl
   have p2 : v2.cell? ⟨P, 2, none⟩ = some (.int .i64 0) := by rw [cell_of_row _ _ _ _ 118 _ hz]; rfl
   have p3 : v2.cell? ⟨P, 3, none⟩ = some (.int .i64 0) := by rw [cell_of_row _ _ _ _ 118 _ hz]; rfl
   have p4 : v2.cell? ⟨P, 4, none⟩ = some (.int .i64 0) := by rw [cell_of_row _ _ _ _ 118 _ hz]; rfl
   have p5 : v2.cell? ⟨P, 5, none⟩ = some (.int .i64 0) := by rw [cell_of_row _ _ _ _ 118 _ hz]; rfl
   have p6 : v2.cell? ⟨P, 6, none⟩ = some (.int .i64 0) := by rw [cell_of_row _ _ _ _ 118 _ hz]; rfl
   have p7 : v2.cell? ⟨P, 7, none⟩ = some (.int .i64 0) := by rw [cell_of_row _ _ _ _ 118 _ hz]; rfl
   have p8 : v2.cell? ⟨P, 8, none⟩ = some (.int .i64 0) := by rw [cell_of_row _ _ _ _ 118 _ hz]; rfl
   have p9 : v2.cell? ⟨P, 9, none⟩ = some (.int .i64 0) := by rw [cell_of_row _ _ _ _ 118 _ hz]; rfl
   have fz : ∀ j, v2.frozen? ⟨P, j, none⟩ = false := fun j => frozen_of_row _ _ j _ 118 hz
   refine rdS (i := 18) rfl (fun K hK => ?_)
   go_simp
   obtain ⟨X, hX⟩ : ∃ X, X = ((((((((((v2).setCell ⟨P, 0, none⟩ (.int .i64 z0)).setCell ⟨P, 1, none⟩ (.int .i64 z1)).setCell ⟨P, 2, none⟩ (.int .i64 z2)).setCell ⟨P, 3, none⟩ (.int .i64 z3)).setCell ⟨P, 4, none⟩ (.int .i64 z4)).setCell ⟨P, 5, none⟩ (.int .i64 z5)).setCell ⟨P, 6, none⟩ (.int .i64 z6)).setCell ⟨P, 7, none⟩ (.int .i64 z7)).setCell ⟨P, 8, none⟩ (.int .i64 z8)).setCell ⟨P, 9, none⟩ (.int .i64 l9) := ⟨_, rfl⟩
   rw [← hX]
   have FX : Fr P v2 X := by rw [hX]; exact ((((((((((Fr.refl P v2).set 0 _).set 1 _).set 2 _).set 3 _).set 4 _).set 5 _).set 6 _).set 7 _).set 8 _).set 9 _
   have IX : IntsL X P 118 [z0, z1, z2, z3, z4, z5, z6, z7, z8, l9] := by
    rw [hX]
    have e1 := row_set (row_set (row_set (row_set (row_set (row_set (row_set (row_set (row_set (row_set (hz) 0 (.int .i64 z0)) 1 (.int .i64 z1)) 2 (.int .i64 z2)) 3 (.int .i64 z3)) 4 (.int .i64 z4)) 5 (.int .i64 z5)) 6 (.int .i64 z6)) 7 (.int .i64 z7)) 8 (.int .i64 z8)) 9 (.int .i64 l9)
    simp only [List.set_cons_zero, List.set_cons_succ] at e1
    exact e1
   clear hX p0 p1 p2 p3 p4 p5 p6 p7 p8 p9 fz
   have SX : (fun Y : World => Y.cell? ⟨B, 5, none⟩ = some (.int .i64 a0) ∧ Y.cell? ⟨B, 6, none⟩ = some (.int .i64 a1) ∧ Y.cell? ⟨B, 7, none⟩ = some (.int .i64 a2) ∧ Y.cell? ⟨B, 8, none⟩ = some (.int .i64 a3) ∧ Y.cell? ⟨B, 9, none⟩ = some (.int .i64 a4) ∧ Y.cell? ⟨B, 10, none⟩ = some (.int .i64 a5) ∧ Y.cell? ⟨B, 11, none⟩ = some (.int .i64 a6) ∧ Y.cell? ⟨B, 12, none⟩ = some (.int .i64 a7) ∧ Y.cell? ⟨B, 13, none⟩ = some (.int .i64 a8) ∧ Y.cell? ⟨B, 15, none⟩ = some (.int .i64 l0) ∧ Y.cell? ⟨B, 16, none⟩ = some (.int .i64 l1) ∧ Y.cell? ⟨B, 17, none⟩ = some (.int .i64 l2) ∧ Y.cell? ⟨B, 18, none⟩ = some (.int .i64 l3) ∧ Y.cell? ⟨B, 19, none⟩ = some (.int .i64 l4) ∧ Y.cell? ⟨B, 20, none⟩ = some (.int .i64 l5) ∧ Y.cell? ⟨B, 21, none⟩ = some (.int .i64 l6) ∧ Y.cell? ⟨B, 22, none⟩ = some (.int .i64 l7) ∧ Y.cell? ⟨B, 23, none⟩ = some (.int .i64 l8) ∧ Y.cell? ⟨B, 24, none⟩ = some (.int .i64 l9)) X := by
    have h := HSt.out v2 b2
    have hk : X.heap[B]? = v2.heap[B]? := FX.2.2.2.2 B (Nat.lt_of_lt_of_le hBL b2.size) (by omega)
    simp only [cell_of_heap hk]
    exact h
   refine hK.out _ _ SX (fun _ => ?_)
   try simp only [Act.put, List.getElem_toArray, List.getElem_cons_zero, List.getElem_cons_succ, List.setIfInBounds_toArray, List.set_cons_zero, List.set_cons_succ]
   clear hK K SX
   refine wpAnyH_done (by kernel_rfl) ?_ _
   have bX : X.heap[g]? = some (.cells #[.int .i64 gs, .int .i64 gp, .int .i64 (pn : Int), .int .i64 gm, .int .i64 (mn : Int)] 33 (0, 0)) := (FX.2.2.2.2 g (Nat.lt_of_lt_of_le hgL b2.size) (by omega)).trans ((b2.block g hgL).trans HG.out)
   have rX : X.heap[g + 1]? = some (.cells #[.int .i64 0, .int .i64 0, .int .i64 0, .int .i64 0, .int .i64 0, .int .i64 0, .int .i64 0, .int .i64 0, .int .i64 0, .int .i64 0] 118 (0, 0)) := (FX.2.2.2.2 (g + 1) (Nat.lt_of_lt_of_le hrL b2.size) (by omega)).trans ((b2.block (g + 1) hrL).trans HRR.out)
   have c0 := cell_of_row X g 0 _ 33 _ bX
   have c1 := cell_of_row X g 1 _ 33 _ bX
   have c2 := cell_of_row X g 2 _ 33 _ bX
   have c3 := cell_of_row X g 3 _ 33 _ bX
   have c4 := cell_of_row X g 4 _ 33 _ bX
   have HRX := hideP rX
   have HFX := hideP FX
   have HB2 := hideP b2
   have hgX := (Array.getElem?_eq_some_iff.1 bX).1
   have hrX := (Array.getElem?_eq_some_iff.1 rX).1
   clear bX rX FX b2 hz PC HSt HG HRR
   have HIX := hideP IX
   clear IX
   go_wp2_with fail
   refine (GC.out X P HIX.out).mono ?_
   rintro e v5 ⟨⟨vr, rfl⟩, hi5, hf5⟩
   have r5 : v5.heap[g + 1]? = some (.cells #[.int .i64 0, .int .i64 0, .int .i64 0, .int .i64 0, .int .i64 0, .int .i64 0, .int .i64 0, .int .i64 0, .int .i64 0, .int .i64 0] 118 (0, 0)) := (hf5.2.2.2.2 (g + 1) hrX (by omega)).trans HRX.out
   clear c0 c1 c2 c3 c4
   have r10 : v5.cell? ⟨P, 0, none⟩ = some (.int .i64 y0) := by rw [cell_of_row _ _ _ _ 118 _ hi5]; rfl
   have r11 : v5.cell? ⟨P, 1, none⟩ = some (.int .i64 y1) := by rw [cell_of_row _ _ _ _ 118 _ hi5]; rfl
   have r12 : v5.cell? ⟨P, 2, none⟩ = some (.int .i64 y2) := by rw [cell_of_row _ _ _ _ 118 _ hi5]; rfl
   have r13 : v5.cell? ⟨P, 3, none⟩ = some (.int .i64 y3) := by rw [cell_of_row _ _ _ _ 118 _ hi5]; rfl
   have r14 : v5.cell? ⟨P, 4, none⟩ = some (.int .i64 y4) := by rw [cell_of_row _ _ _ _ 118 _ hi5]; rfl
   have r15 : v5.cell? ⟨P, 5, none⟩ = some (.int .i64 y5) := by rw [cell_of_row _ _ _ _ 118 _ hi5]; rfl
   have r16 : v5.cell? ⟨P, 6, none⟩ = some (.int .i64 y6) := by rw [cell_of_row _ _ _ _ 118 _ hi5]; rfl
   have r17 : v5.cell? ⟨P, 7, none⟩ = some (.int .i64 y7) := by rw [cell_of_row _ _ _ _ 118 _ hi5]; rfl
   have r18 : v5.cell? ⟨P, 8, none⟩ = some (.int .i64 y8) := by rw [cell_of_row _ _ _ _ 118 _ hi5]; rfl
   have r19 : v5.cell? ⟨P, 9, none⟩ = some (.int .i64 y9) := by rw [cell_of_row _ _ _ _ 118 _ hi5]; rfl
   have s0 : v5.cell? ⟨g + 1, 0, none⟩ = some (.int .i64 0) := by rw [cell_of_row _ _ _ _ 118 _ r5]; rfl
   have s1 : v5.cell? ⟨g + 1, 1, none⟩ = some (.int .i64 0) := by rw [cell_of_row _ _ _ _ 118 _ r5]; rfl
   have s2 : v5.cell? ⟨g + 1, 2, none⟩ = some (.int .i64 0) := by rw [cell_of_row _ _ _ _ 118 _ r5]; rfl
   have s3 : v5.cell? ⟨g + 1, 3, none⟩ = some (.int .i64 0) := by rw [cell_of_row _ _ _ _ 118 _ r5]; rfl
   have s4 : v5.cell? ⟨g + 1, 4, none⟩ = some (.int .i64 0) := by rw [cell_of_row _ _ _ _ 118 _ r5]; rfl
   have s5 : v5.cell? ⟨g + 1, 5, none⟩ = some (.int .i64 0) := by rw [cell_of_row _ _ _ _ 118 _ r5]; rfl
   have s6 : v5.cell? ⟨g + 1, 6, none⟩ = some (.int .i64 0) := by rw [cell_of_row _ _ _ _ 118 _ r5]; rfl
   have s7 : v5.cell? ⟨g + 1, 7, none⟩ = some (.int .i64 0) := by rw [cell_of_row _ _ _ _ 118 _ r5]; rfl
   have s8 : v5.cell? ⟨g + 1, 8, none⟩ = some (.int .i64 0) := by rw [cell_of_row _ _ _ _ 118 _ r5]; rfl
   have s9 : v5.cell? ⟨g + 1, 9, none⟩ = some (.int .i64 0) := by rw [cell_of_row _ _ _ _ 118 _ r5]; rfl
   have fz : ∀ j, v5.frozen? ⟨g + 1, j, none⟩ = false := fun j => frozen_of_row _ _ j _ 118 r5
   have HR5 := hideP r5
   have HF5 := hideP hf5
   clear r5 hf5 hi5
   go_wp2
   obtain ⟨Y, hY⟩ : ∃ Y, Y = ((((((((((v5).setCell ⟨g + 1, 0, none⟩ (.int .i64 y0)).setCell ⟨g + 1, 1, none⟩ (.int .i64 y1)).setCell ⟨g + 1, 2, none⟩ (.int .i64 y2)).setCell ⟨g + 1, 3, none⟩ (.int .i64 y3)).setCell ⟨g + 1, 4, none⟩ (.int .i64 y4)).setCell ⟨g + 1, 5, none⟩ (.int .i64 y5)).setCell ⟨g + 1, 6, none⟩ (.int .i64 y6)).setCell ⟨g + 1, 7, none⟩ (.int .i64 y7)).setCell ⟨g + 1, 8, none⟩ (.int .i64 y8)).setCell ⟨g + 1, 9, none⟩ (.int .i64 y9) := ⟨_, rfl⟩
   rw [← hY]
   have FY : Fr (g + 1) v5 Y := by rw [hY]; exact ((((((((((Fr.refl (g + 1) v5).set 0 _).set 1 _).set 2 _).set 3 _).set 4 _).set 5 _).set 6 _).set 7 _).set 8 _).set 9 _
   have RY : Y.heap[g + 1]? = some (.cells #[.int .i64 y0, .int .i64 y1, .int .i64 y2, .int .i64 y3, .int .i64 y4, .int .i64 y5, .int .i64 y6, .int .i64 y7, .int .i64 y8, .int .i64 y9] 118 (0, 0)) := by
    rw [hY]
    have e1 := row_set (row_set (row_set (row_set (row_set (row_set (row_set (row_set (row_set (row_set (HR5.out) 0 (.int .i64 y0)) 1 (.int .i64 y1)) 2 (.int .i64 y2)) 3 (.int .i64 y3)) 4 (.int .i64 y4)) 5 (.int .i64 y5)) 6 (.int .i64 y6)) 7 (.int .i64 y7)) 8 (.int .i64 y8)) 9 (.int .i64 y9)
    simp only [List.set_cons_zero, List.set_cons_succ] at e1
    exact e1
   have BY : Below w.heap.size w Y := by
    have bw := BW.out.trans (HB2.out.mono BW.out.size)
    have f1 := HFX.out
    have f2 := HF5.out
    have eg := HGE.out
    exact ⟨FY.1.trans (f2.1.trans (f1.1.trans bw.os)), FY.2.1.trans (f2.2.1.trans (f1.2.1.trans bw.tape)), FY.2.2.1.trans (f2.2.2.1.trans (f1.2.2.1.trans bw.output)), Nat.le_trans bw.size (Nat.le_trans f1.2.2.2.1 (Nat.le_trans f2.2.2.2.1 FY.2.2.2.1)), fun k hk => (FY.2.2.2.2 k (Nat.lt_of_lt_of_le (Nat.lt_of_lt_of_le (Nat.lt_of_lt_of_le hk bw.size) f1.2.2.2.1) f2.2.2.2.1) (by omega)).trans ((f2.2.2.2.2 k (Nat.lt_of_lt_of_le (Nat.lt_of_lt_of_le hk bw.size) f1.2.2.2.1) (by omega)).trans ((f1.2.2.2.2 k (Nat.lt_of_lt_of_le hk bw.size) (by omega)).trans (bw.block k hk)))⟩
   exact bodyPost_ret (v := .agg #[.int .i64 y0, .int .i64 y1, .int .i64 y2, .int .i64 y3, .int .i64 y4, .int .i64 y5, .int .i64 y6, .int .i64 y7, .int .i64 y8, .int .i64 y9]) (results_cell_row rfl _ _ (g + 1) 118 _ (0, 0) _ rfl RY Tryz.underlying118 rfl (by kernel_rfl)) rfl ⟨rfl, BY⟩
  ·rw [if_pos (by first | rfl | go_simp)]
   go_simp
   obtain ⟨P, hP⟩ : ∃ P, P = v0.heap.size := ⟨_, rfl⟩
   obtain ⟨v1, hv1⟩ : ∃ X, X = v0.alloc (.cells #[.int .i64 0, .int .i64 0, .int .i64 0, .int .i64 0, .int .i64 0, .int .i64 0, .int .i64 0, .int .i64 0, .int .i64 0, .int .i64 0] 118) := ⟨_, rfl⟩
   have hz1 : v1.heap[P]? = some (.cells #[.int .i64 0, .int .i64 0, .int .i64 0, .int .i64 0, .int .i64 0, .int .i64 0, .int .i64 0, .int .i64 0, .int .i64 0, .int .i64 0] 118 (0, 0)) := by rw [hv1, hP]; exact heap_alloc_new _ _
   have b1 : Below V.heap.size V v1 := by rw [hv1]; exact b0.alloc b0.size _
   have hPL : V.heap.size ≤ P := by rw [hP]; exact b0.size
   rw [← hv1, ← hP]
   clear hv1 hP
   refine hK.out _ _ (HSt.out v1 b1) (fun _ => ?_)
   try simp only [Act.put, List.getElem_toArray, List.getElem_cons_zero, List.getElem_cons_succ, List.setIfInBounds_toArray, List.set_cons_zero, List.set_cons_succ]
   clear hK K
   refine rdS (i := 10) rfl (fun K hK => ?_)
   go_simp
   go_at_call 115
   refine (PC.out v1).mono ?_
   rintro e v2 ⟨rfl, hc⟩
   have b2 : Below V.heap.size V v2 := below_more b1 hc b1.size
   have hz : v2.heap[P]? = some (.cells #[.int .i64 0, .int .i64 0, .int .i64 0, .int .i64 0, .int .i64 0, .int .i64 0, .int .i64 0, .int .i64 0, .int .i64 0, .int .i64 0] 118 (0, 0)) := (hc.block P (Array.getElem?_eq_some_iff.1 hz1).1).trans hz1
   refine hK.out _ _ (HSt.out v2 b2) (fun _ => ?_)
   try simp only [Act.put, List.getElem_toArray, List.getElem_cons_zero, List.getElem_cons_succ, List.setIfInBounds_toArray, List.set_cons_zero, List.set_cons_succ]
   clear hK K
   refine tkS (i := 16) (v := .agg #[.int .i64 z0, .int .i64 z1, .int .i64 z2, .int .i64 z3, .int .i64 z4, .int .i64 z5, .int .i64 z6, .int .i64 z7, .int .i64 z8, .int .i64 l9]) rfl (HSt.out v2 b2) ?_ (hr := fun wx hx => build_118op (p := .tmp 25) (q := .tmp 30) rfl rfl rfl wx)
   try simp only [Act.put, List.getElem_toArray, List.getElem_cons_zero, List.getElem_cons_succ, List.setIfInBounds_toArray, List.set_cons_zero, List.set_cons_succ]
   clear b1 hc hz1
   have p0 : v2.cell? ⟨P, 0, none⟩ = some (.int .i64 0) := by rw [cell_of_row _ _ _ _ 118 _ hz]; rfl
   have p1 : v2.cell? ⟨P, 1, none⟩ = some (.int .i64 0) := by rw [cell_of_row _ _ _ _ 118 _ hz]; rfl
   have p2 : v2.cell? ⟨P, 2, none⟩ = some (.int .i64 0) := by rw [cell_of_row _ _ _ _ 118 _ hz]; rfl
   have p3 : v2.cell? ⟨P, 3, none⟩ = some (.int .i64 0) := by rw [cell_of_row _ _ _ _ 118 _ hz]; rfl
   have p4 : v2.cell? ⟨P, 4, none⟩ = some (.int .i64 0) := by rw [cell_of_row _ _ _ _ 118 _ hz]; rfl
   have p5 : v2.cell? ⟨P, 5, none⟩ = some (.int .i64 0) := by rw [cell_of_row _ _ _ _ 118 _ hz]; rfl
   have p6 : v2.cell? ⟨P, 6, none⟩ = some (.int .i64 0) := by rw [cell_of_row _ _ _ _ 118 _ hz]; rfl
   have p7 : v2.cell? ⟨P, 7, none⟩ = some (.int .i64 0) := by rw [cell_of_row _ _ _ _ 118 _ hz]; rfl
   have p8 : v2.cell? ⟨P, 8, none⟩ = some (.int .i64 0) := by rw [cell_of_row _ _ _ _ 118 _ hz]; rfl
   have p9 : v2.cell? ⟨P, 9, none⟩ = some (.int .i64 0) := by rw [cell_of_row _ _ _ _ 118 _ hz]; rfl
   have fz : ∀ j, v2.frozen? ⟨P, j, none⟩ = false := fun j => frozen_of_row _ _ j _ 118 hz
   refine rdS (i := 18) rfl (fun K hK => ?_)
   go_simp
   obtain ⟨X, hX⟩ : ∃ X, X = ((((((((((v2).setCell ⟨P, 0, none⟩ (.int .i64 z0)).setCell ⟨P, 1, none⟩ (.int .i64 z1)).setCell ⟨P, 2, none⟩ (.int .i64 z2)).setCell ⟨P, 3, none⟩ (.int .i64 z3)).setCell ⟨P, 4, none⟩ (.int .i64 z4)).setCell ⟨P, 5, none⟩ (.int .i64 z5)).setCell ⟨P, 6, none⟩ (.int .i64 z6)).setCell ⟨P, 7, none⟩ (.int .i64 z7)).setCell ⟨P, 8, none⟩ (.int .i64 z8)).setCell ⟨P, 9, none⟩ (.int .i64 l9) := ⟨_, rfl⟩
   rw [← hX]
   have FX : Fr P v2 X := by rw [hX]; exact ((((((((((Fr.refl P v2).set 0 _).set 1 _).set 2 _).set 3 _).set 4 _).set 5 _).set 6 _).set 7 _).set 8 _).set 9 _
   have IX : IntsL X P 118 [z0, z1, z2, z3, z4, z5, z6, z7, z8, l9] := by
    rw [hX]
    have e1 := row_set (row_set (row_set (row_set (row_set (row_set (row_set (row_set (row_set (row_set (hz) 0 (.int .i64 z0)) 1 (.int .i64 z1)) 2 (.int .i64 z2)) 3 (.int .i64 z3)) 4 (.int .i64 z4)) 5 (.int .i64 z5)) 6 (.int .i64 z6)) 7 (.int .i64 z7)) 8 (.int .i64 z8)) 9 (.int .i64 l9)
    simp only [List.set_cons_zero, List.set_cons_succ] at e1
    exact e1
   clear hX p0 p1 p2 p3 p4 p5 p6 p7 p8 p9 fz
   have SX : (fun Y : World => Y.cell? ⟨B, 5, none⟩ = some (.int .i64 a0) ∧ Y.cell? ⟨B, 6, none⟩ = some (.int .i64 a1) ∧ Y.cell? ⟨B, 7, none⟩ = some (.int .i64 a2) ∧ Y.cell? ⟨B, 8, none⟩ = some (.int .i64 a3) ∧ Y.cell? ⟨B, 9, none⟩ = some (.int .i64 a4) ∧ Y.cell? ⟨B, 10, none⟩ = some (.int .i64 a5) ∧ Y.cell? ⟨B, 11, none⟩ = some (.int .i64 a6) ∧ Y.cell? ⟨B, 12, none⟩ = some (.int .i64 a7) ∧ Y.cell? ⟨B, 13, none⟩ = some (.int .i64 a8) ∧ Y.cell? ⟨B, 15, none⟩ = some (.int .i64 l0) ∧ Y.cell? ⟨B, 16, none⟩ = some (.int .i64 l1) ∧ Y.cell? ⟨B, 17, none⟩ = some (.int .i64 l2) ∧ Y.cell? ⟨B, 18, none⟩ = some (.int .i64 l3) ∧ Y.cell? ⟨B, 19, none⟩ = some (.int .i64 l4) ∧ Y.cell? ⟨B, 20, none⟩ = some (.int .i64 l5) ∧ Y.cell? ⟨B, 21, none⟩ = some (.int .i64 l6) ∧ Y.cell? ⟨B, 22, none⟩ = some (.int .i64 l7) ∧ Y.cell? ⟨B, 23, none⟩ = some (.int .i64 l8) ∧ Y.cell? ⟨B, 24, none⟩ = some (.int .i64 l9)) X := by
    have h := HSt.out v2 b2
    have hk : X.heap[B]? = v2.heap[B]? := FX.2.2.2.2 B (Nat.lt_of_lt_of_le hBL b2.size) (by omega)
    simp only [cell_of_heap hk]
    exact h
   refine hK.out _ _ SX (fun _ => ?_)
   try simp only [Act.put, List.getElem_toArray, List.getElem_cons_zero, List.getElem_cons_succ, List.setIfInBounds_toArray, List.set_cons_zero, List.set_cons_succ]
   clear hK K SX
   refine wpAnyH_done (by kernel_rfl) ?_ _
   have bX : X.heap[g]? = some (.cells #[.int .i64 gs, .int .i64 gp, .int .i64 (pn : Int), .int .i64 gm, .int .i64 (mn : Int)] 33 (0, 0)) := (FX.2.2.2.2 g (Nat.lt_of_lt_of_le hgL b2.size) (by omega)).trans ((b2.block g hgL).trans HG.out)
   have rX : X.heap[g + 1]? = some (.cells #[.int .i64 0, .int .i64 0, .int .i64 0, .int .i64 0, .int .i64 0, .int .i64 0, .int .i64 0, .int .i64 0, .int .i64 0, .int .i64 0] 118 (0, 0)) := (FX.2.2.2.2 (g + 1) (Nat.lt_of_lt_of_le hrL b2.size) (by omega)).trans ((b2.block (g + 1) hrL).trans HRR.out)
   have c0 := cell_of_row X g 0 _ 33 _ bX
   have c1 := cell_of_row X g 1 _ 33 _ bX
   have c2 := cell_of_row X g 2 _ 33 _ bX
   have c3 := cell_of_row X g 3 _ 33 _ bX
   have c4 := cell_of_row X g 4 _ 33 _ bX
   have HRX := hideP rX
   have HFX := hideP FX
   have HB2 := hideP b2
   have hgX := (Array.getElem?_eq_some_iff.1 bX).1
   have hrX := (Array.getElem?_eq_some_iff.1 rX).1
   clear bX rX FX b2 hz PC HSt HG HRR
   have HIX := hideP IX
   clear IX
   go_wp2_with fail
   refine (GC.out X P HIX.out).mono ?_
   rintro e v5 ⟨⟨vr, rfl⟩, hi5, hf5⟩
   have r5 : v5.heap[g + 1]? = some (.cells #[.int .i64 0, .int .i64 0, .int .i64 0, .int .i64 0, .int .i64 0, .int .i64 0, .int .i64 0, .int .i64 0, .int .i64 0, .int .i64 0] 118 (0, 0)) := (hf5.2.2.2.2 (g + 1) hrX (by omega)).trans HRX.out
   clear c0 c1 c2 c3 c4
   have r10 : v5.cell? ⟨P, 0, none⟩ = some (.int .i64 y0) := by rw [cell_of_row _ _ _ _ 118 _ hi5]; rfl
   have r11 : v5.cell? ⟨P, 1, none⟩ = some (.int .i64 y1) := by rw [cell_of_row _ _ _ _ 118 _ hi5]; rfl
   have r12 : v5.cell? ⟨P, 2, none⟩ = some (.int .i64 y2) := by rw [cell_of_row _ _ _ _ 118 _ hi5]; rfl
   have r13 : v5.cell? ⟨P, 3, none⟩ = some (.int .i64 y3) := by rw [cell_of_row _ _ _ _ 118 _ hi5]; rfl
   have r14 : v5.cell? ⟨P, 4, none⟩ = some (.int .i64 y4) := by rw [cell_of_row _ _ _ _ 118 _ hi5]; rfl
   have r15 : v5.cell? ⟨P, 5, none⟩ = some (.int .i64 y5) := by rw [cell_of_row _ _ _ _ 118 _ hi5]; rfl
   have r16 : v5.cell? ⟨P, 6, none⟩ = some (.int .i64 y6) := by rw [cell_of_row _ _ _ _ 118 _ hi5]; rfl
   have r17 : v5.cell? ⟨P, 7, none⟩ = some (.int .i64 y7) := by rw [cell_of_row _ _ _ _ 118 _ hi5]; rfl
   have r18 : v5.cell? ⟨P, 8, none⟩ = some (.int .i64 y8) := by rw [cell_of_row _ _ _ _ 118 _ hi5]; rfl
   have r19 : v5.cell? ⟨P, 9, none⟩ = some (.int .i64 y9) := by rw [cell_of_row _ _ _ _ 118 _ hi5]; rfl
   have s0 : v5.cell? ⟨g + 1, 0, none⟩ = some (.int .i64 0) := by rw [cell_of_row _ _ _ _ 118 _ r5]; rfl
   have s1 : v5.cell? ⟨g + 1, 1, none⟩ = some (.int .i64 0) := by rw [cell_of_row _ _ _ _ 118 _ r5]; rfl
   have s2 : v5.cell? ⟨g + 1, 2, none⟩ = some (.int .i64 0) := by rw [cell_of_row _ _ _ _ 118 _ r5]; rfl
   have s3 : v5.cell? ⟨g + 1, 3, none⟩ = some (.int .i64 0) := by rw [cell_of_row _ _ _ _ 118 _ r5]; rfl
   have s4 : v5.cell? ⟨g + 1, 4, none⟩ = some (.int .i64 0) := by rw [cell_of_row _ _ _ _ 118 _ r5]; rfl
   have s5 : v5.cell? ⟨g + 1, 5, none⟩ = some (.int .i64 0) := by rw [cell_of_row _ _ _ _ 118 _ r5]; rfl
   have s6 : v5.cell? ⟨g + 1, 6, none⟩ = some (.int .i64 0) := by rw [cell_of_row _ _ _ _ 118 _ r5]; rfl
   have s7 : v5.cell? ⟨g + 1, 7, none⟩ = some (.int .i64 0) := by rw [cell_of_row _ _ _ _ 118 _ r5]; rfl
   have s8 : v5.cell? ⟨g + 1, 8, none⟩ = some (.int .i64 0) := by rw [cell_of_row _ _ _ _ 118 _ r5]; rfl
   have s9 : v5.cell? ⟨g + 1, 9, none⟩ = some (.int .i64 0) := by rw [cell_of_row _ _ _ _ 118 _ r5]; rfl
   have fz : ∀ j, v5.frozen? ⟨g + 1, j, none⟩ = false := fun j => frozen_of_row _ _ j _ 118 r5
   have HR5 := hideP r5
   have HF5 := hideP hf5
   clear r5 hf5 hi5
   go_wp2
   obtain ⟨Y, hY⟩ : ∃ Y, Y = ((((((((((v5).setCell ⟨g + 1, 0, none⟩ (.int .i64 y0)).setCell ⟨g + 1, 1, none⟩ (.int .i64 y1)).setCell ⟨g + 1, 2, none⟩ (.int .i64 y2)).setCell ⟨g + 1, 3, none⟩ (.int .i64 y3)).setCell ⟨g + 1, 4, none⟩ (.int .i64 y4)).setCell ⟨g + 1, 5, none⟩ (.int .i64 y5)).setCell ⟨g + 1, 6, none⟩ (.int .i64 y6)).setCell ⟨g + 1, 7, none⟩ (.int .i64 y7)).setCell ⟨g + 1, 8, none⟩ (.int .i64 y8)).setCell ⟨g + 1, 9, none⟩ (.int .i64 y9) := ⟨_, rfl⟩
   rw [← hY]
   have FY : Fr (g + 1) v5 Y := by rw [hY]; exact ((((((((((Fr.refl (g + 1) v5).set 0 _).set 1 _).set 2 _).set 3 _).set 4 _).set 5 _).set 6 _).set 7 _).set 8 _).set 9 _
   have RY : Y.heap[g + 1]? = some (.cells #[.int .i64 y0, .int .i64 y1, .int .i64 y2, .int .i64 y3, .int .i64 y4, .int .i64 y5, .int .i64 y6, .int .i64 y7, .int .i64 y8, .int .i64 y9] 118 (0, 0)) := by
    rw [hY]
    have e1 := row_set (row_set (row_set (row_set (row_set (row_set (row_set (row_set (row_set (row_set (HR5.out) 0 (.int .i64 y0)) 1 (.int .i64 y1)) 2 (.int .i64 y2)) 3 (.int .i64 y3)) 4 (.int .i64 y4)) 5 (.int .i64 y5)) 6 (.int .i64 y6)) 7 (.int .i64 y7)) 8 (.int .i64 y8)) 9 (.int .i64 y9)
    simp only [List.set_cons_zero, List.set_cons_succ] at e1
    exact e1
   have BY : Below w.heap.size w Y := by
    have bw := BW.out.trans (HB2.out.mono BW.out.size)
    have f1 := HFX.out
    have f2 := HF5.out
    have eg := HGE.out
    exact ⟨FY.1.trans (f2.1.trans (f1.1.trans bw.os)), FY.2.1.trans (f2.2.1.trans (f1.2.1.trans bw.tape)), FY.2.2.1.trans (f2.2.2.1.trans (f1.2.2.1.trans bw.output)), Nat.le_trans bw.size (Nat.le_trans f1.2.2.2.1 (Nat.le_trans f2.2.2.2.1 FY.2.2.2.1)), fun k hk => (FY.2.2.2.2 k (Nat.lt_of_lt_of_le (Nat.lt_of_lt_of_le (Nat.lt_of_lt_of_le hk bw.size) f1.2.2.2.1) f2.2.2.2.1) (by omega)).trans ((f2.2.2.2.2 k (Nat.lt_of_lt_of_le (Nat.lt_of_lt_of_le hk bw.size) f1.2.2.2.1) (by omega)).trans ((f1.2.2.2.2 k (Nat.lt_of_lt_of_le hk bw.size) (by omega)).trans (bw.block k hk)))⟩
   exact bodyPost_ret (v := .agg #[.int .i64 y0, .int .i64 y1, .int .i64 y2, .int .i64 y3, .int .i64 y4, .int .i64 y5, .int .i64 y6, .int .i64 y7, .int .i64 y8, .int .i64 y9]) (results_cell_row rfl _ _ (g + 1) 118 _ (0, 0) _ rfl RY Tryz.underlying118 rfl (by kernel_rfl)) rfl ⟨rfl, BY⟩
def gapQ (S : Sh) (P : List Int) : Int := wrap64 (S.ht - wrap64 (P.getD 0 0 - deepI S (P.getD 9 0)))
def badW (S : Sh) (P : List Int) : Int := Shr.badT (gapQ S P) (Shr.pl4 P) (Shr.mi4 P)
structure PilIn (S : Sh) (P : List Int) : Prop where
 q0 : -4611686018427387904 ≤ gapQ S P
 q1 : gapQ S P ≤ 4611686018427387904
 p : (Shr.pl4 P).getD (Shr.top (Shr.pl4 P)) 0 ≤ 60000000000000
 m0 : -60000000000000 ≤ (Shr.mi4 P).getD (Shr.top (Shr.mi4 P)) 0
 m1 : (Shr.mi4 P).getD (Shr.top (Shr.mi4 P)) 0 ≤ 60000000000000
def whoS (S : Sh) (hn : Bool) (A L : List Int) : List Int := whoI hn A L S.g0 S.g1 S.g2.toNat S.g3 S.g4.toNat
def rckI (S : Sh) (hn : Bool) (A L : List Int) (hg pr : Int) : Int := costP S (badW S (whoS S hn A L)) hg pr
set_option maxRecDepth 20000 in
set_option maxHeartbeats 8000000 in
theorem reckon_any {w : World} {B : Nat} {tt pr co hg : Int} {em hn : Bool} {A L : List Int} (h : TriA w B tt pr co em hn A L hg) (S : Sh) (hg2 : 0 ≤ S.g2 ∧ S.g2 < 4) (hg4 : 0 ≤ S.g4 ∧ S.g4 < 4) (hin : PilIn S (whoS S hn A L)) :
 Calls Tryz.prog 46 #[.pointer (some ⟨B, 0, none⟩), shV S] w fun e w' => (∃ v, e = .returned v) ∧ TriA w' B tt pr (rckI S hn A L hg pr) em hn A L hg ∧ Fr B w w' := by
 have hB := h.lt
 obtain ⟨pn, hpn⟩ : ∃ n : Nat, S.g2 = (n : Int) := ⟨S.g2.toNat, by omega⟩
 obtain ⟨mn, hmn⟩ : ∃ n : Nat, S.g4 = (n : Int) := ⟨S.g4.toNat, by omega⟩
 have hF : whoS S hn A L = whoI hn A L S.g0 S.g1 pn S.g3 mn := by unfold whoS; rw [hpn, hmn]; rfl
 have WC : Hid (∀ W, Below w.heap.size w W → Calls Tryz.prog 95 #[.pointer (some ⟨B, 0, none⟩), .agg #[.int .i64 S.g0, .int .i64 S.g1, .int .i64 S.g2, .int .i64 S.g3, .int .i64 S.g4]] W fun e w' => e = .returned (Shr.mea (whoS S hn A L)) ∧ Below W.heap.size W w') := hideP (fun W hW => by
  rw [hF, hpn, hmn]
  exact whole_any (h := ⟨h.la, h.ll, (hW.block B hB).trans h.row⟩) S.g0 S.g1 S.g3 pn mn (by omega) (by omega))
 have hPl : (whoS S hn A L).length = 10 := by rw [hF]; exact whoI_len _ h.la _ _ _ _ _
 obtain ⟨RC, hRC⟩ : ∃ r, r = rckI S hn A L hg pr := ⟨_, rfl⟩
 have HRC : Hid (RC = costP S (badW S (whoS S hn A L)) hg pr) := hideP hRC
 rw [← hRC]
 obtain ⟨P, hP⟩ : ∃ P, P = whoS S hn A L := ⟨_, rfl⟩
 rw [← hP] at WC hPl hin HRC
 obtain ⟨bd, hbd⟩ : ∃ b, b = badW S P := ⟨_, rfl⟩
 rw [← hbd] at HRC
 obtain ⟨y0, y1, y2, y3, y4, y5, y6, y7, y8, y9, rfl⟩ := ten_of P hPl
 obtain ⟨i0, i1, i2, i3, i4⟩ := hin
 obtain ⟨q, hq⟩ : ∃ q, q = gapQ S [y0, y1, y2, y3, y4, y5, y6, y7, y8, y9] := ⟨_, rfl⟩
 rw [← hq] at i0 i1
 obtain ⟨de, hde⟩ : ∃ d, d = deepI S y9 := ⟨_, rfl⟩
 have HQ : Hid (wrap64 (S.ht - wrap64 (y0 - min y9 S.dp)) = q) := hideP (by rw [hq, show min y9 S.dp = deepI S y9 by unfold deepI; split <;> omega]; rfl)
 have HBD : Hid (bd = Shr.badT q [y1, y2, y3, y4] [y5, y6, y7, y8]) := hideP (by rw [hbd, hq]; rfl)
 have SC : Hid (∀ W, Calls Tryz.prog 81 #[.int .i64 q, .agg #[.int .i64 y1, .int .i64 y2, .int .i64 y3, .int .i64 y4], .agg #[.int .i64 y5, .int .i64 y6, .int .i64 y7, .int .i64 y8]] W fun e w' => Shr.SetQ q bd e ∧ Below W.heap.size W w') := hideP (fun W => by rw [HBD.out]; exact Shr.settleQ_any q y1 y2 y3 y4 y5 y6 y7 y8 W i0 i1 i2 i3 i4)
 have HDE := hideP hde
 clear hRC hP hbd hq hde hPl i0 i1 i2 i3 i4 hpn hmn hF hg2 hg4
 obtain ⟨hA, hL, hrow⟩ := h
 obtain ⟨a0, a1, a2, a3, a4, a5, a6, a7, a8, a9, rfl⟩ := ten_of A hA
 obtain ⟨l0, l1, l2, l3, l4, l5, l6, l7, l8, l9, rfl⟩ := ten_of L hL
 have HR : Hid (w.heap[B]? = some (.cells #[.int .i64 tt, .int .i64 pr, .int .i64 co, .bool em, .bool hn, .int .i64 a0, .int .i64 a1, .int .i64 a2, .int .i64 a3, .int .i64 a4, .int .i64 a5, .int .i64 a6, .int .i64 a7, .int .i64 a8, .int .i64 a9, .int .i64 l0, .int .i64 l1, .int .i64 l2, .int .i64 l3, .int .i64 l4, .int .i64 l5, .int .i64 l6, .int .i64 l7, .int .i64 l8, .int .i64 l9, .int .i64 hg] 120 (0, 0))) := hideP hrow
 clear hA hL hrow
 simp only [shV]
 simp only [Shr.mea, List.map_cons, List.map_nil] at WC
 go_enter Tryz.func46, Tryz.ntmps46
 go_wp2_with fail
 refine (WC.out _ (below1 _ _)).mono ?_
 rintro e w2 ⟨rfl, hb2⟩
 obtain ⟨g, hge⟩ : ∃ g, g = w.heap.size := ⟨_, rfl⟩
 have bg : w2.heap[g]? = some (.cells #[.int .i64 S.ht, .int .i64 S.dp, .int .i64 S.g0, .int .i64 S.g1, .int .i64 S.g2, .int .i64 S.g3, .int .i64 S.g4, .int .i64 S.nt] 45 (0, 0)) := (hb2.block g (by simp [hge])).trans (by rw [hge]; exact heap_alloc_new _ _)
 have B2 : Hid (Below w.heap.size w w2) := hideP (below_more (below1 _ _) hb2 (by simp))
 rw [← hge]
 have HGE := hideP hge
 have c0 : w2.cell? ⟨g, 0, none⟩ = some (.int .i64 S.ht) := by rw [cell_of_row _ _ _ _ 45 _ bg]; rfl
 have c1 : w2.cell? ⟨g, 1, none⟩ = some (.int .i64 S.dp) := by rw [cell_of_row _ _ _ _ 45 _ bg]; rfl
 have c7 : w2.cell? ⟨g, 7, none⟩ = some (.int .i64 S.nt) := by rw [cell_of_row _ _ _ _ 45 _ bg]; rfl
 have hgl := (Array.getElem?_eq_some_iff.1 bg).1
 have HG := hideP bg
 clear bg hb2 WC hge
 go_wp2_with fail
 rw [HQ.out]
 refine (SC.out _).mono ?_
 rintro e w4 ⟨⟨sg, x1, x2, x3, x5, rfl, _⟩, hb4⟩
 have hfd : ∀ W : World, (Instr.field 174 (.agg #[.int .i64 sg, .int .i64 x1, .int .i64 x2, .int .i64 x3, .int .i64 bd, .int .i64 x5]) 4).run Tryz.prog W = .ok (.int .i64 bd) W := fun _ => by kernel_rfl
 have B4 : Hid (Below w.heap.size w w4) := hideP (below_more B2.out (below_more (below1 _ _) hb4 (by simp)) B2.out.size)
 have r4 : w4.heap[B]? = some (.cells #[.int .i64 tt, .int .i64 pr, .int .i64 co, .bool em, .bool hn, .int .i64 a0, .int .i64 a1, .int .i64 a2, .int .i64 a3, .int .i64 a4, .int .i64 a5, .int .i64 a6, .int .i64 a7, .int .i64 a8, .int .i64 a9, .int .i64 l0, .int .i64 l1, .int .i64 l2, .int .i64 l3, .int .i64 l4, .int .i64 l5, .int .i64 l6, .int .i64 l7, .int .i64 l8, .int .i64 l9, .int .i64 hg] 120 (0, 0)) := (B4.out.block B hB).trans HR.out
 have g4 : w4.heap[g]? = some (.cells #[.int .i64 S.ht, .int .i64 S.dp, .int .i64 S.g0, .int .i64 S.g1, .int .i64 S.g2, .int .i64 S.g3, .int .i64 S.g4, .int .i64 S.nt] 45 (0, 0)) := (hb4.block g (by simp; omega)).trans ((Below.heap_alloc _ _ _ hgl).trans HG.out)
 have t1 : w4.cell? ⟨B, 1, none⟩ = some (.int .i64 pr) := by rw [cell_of_row _ _ _ _ 120 _ r4]; rfl
 have t2 : w4.cell? ⟨B, 2, none⟩ = some (.int .i64 co) := by rw [cell_of_row _ _ _ _ 120 _ r4]; rfl
 have t25 : w4.cell? ⟨B, 25, none⟩ = some (.int .i64 hg) := by rw [cell_of_row _ _ _ _ 120 _ r4]; rfl
 have c7 : w4.cell? ⟨g, 7, none⟩ = some (.int .i64 S.nt) := by rw [cell_of_row _ _ _ _ 45 _ g4]; rfl
 have fz : ∀ j, w4.frozen? ⟨B, j, none⟩ = false := fun j => frozen_of_row _ _ j _ 120 r4
 have hB4l := (Array.getElem?_eq_some_iff.1 r4).1
 have R4 := hideP r4
 obtain ⟨nt, hnt⟩ : ∃ n, n = S.nt := ⟨_, rfl⟩
 rw [← hnt] at c7
 have HRC2 : Hid (RC = if bd = 1000000 ∨ nt < hg then 1000000000 else if pr ≤ -10000 then pr else if bd < 10000 then wrap64 (bd + pr) else 100000) := hideP (by rw [HRC.out, hnt]; rfl)
 clear hb4 r4 g4 c0 c1 HG HR SC hnt HRC HQ HBD HDE B2
 by_cases h1 : bd = 1000000
 ·subst h1
  have HV : Hid (RC = 1000000000) := hideP (by rw [HRC2.out]; rw [if_pos (.inl rfl)])
  clear HRC2
  go_wp2
  go_region
  go_wp2
  go_end0
  refine ⟨⟨_, rfl⟩, ⟨rfl, rfl, ?_⟩, ?_⟩
  ·have e1 := row_set R4.out 2 (.int .i64 RC)
   rw [HV.out] at e1 ⊢
   simp only [List.set_cons_zero, List.set_cons_succ] at e1
   exact e1
  ·have HF2 : Fr B w w4 := Fr.below (Fr.refl B w) B4.out
   repeat (first | with_reducible exact HF2 | with_reducible refine Fr.set ?_ _ _ | with_reducible refine Fr.alloc ?_ _ | with_reducible refine Fr.drew ?_)
 by_cases h2 : nt < hg
 ·have h2g : hg > nt := h2
  have h1b : (bd == 1000000) = false := by simpa using h1
  have HV : Hid (RC = 1000000000) := hideP (by rw [HRC2.out]; rw [if_pos (.inr h2)])
  clear HRC2
  go_wp2
  go_region
  go_wp2
  go_end0
  refine ⟨⟨_, rfl⟩, ⟨rfl, rfl, ?_⟩, ?_⟩
  ·have e1 := row_set R4.out 2 (.int .i64 RC)
   rw [HV.out] at e1 ⊢
   simp only [List.set_cons_zero, List.set_cons_succ] at e1
   exact e1
  ·have HF2 : Fr B w w4 := Fr.below (Fr.refl B w) B4.out
   repeat (first | with_reducible exact HF2 | with_reducible refine Fr.set ?_ _ _ | with_reducible refine Fr.alloc ?_ _ | with_reducible refine Fr.drew ?_)
 have h2g : ¬ hg > nt := h2
 have h1b : (bd == 1000000) = false := by simpa using h1
 by_cases h3 : pr ≤ -10000
 ·have HV : Hid (RC = pr) := hideP (by rw [HRC2.out]; rw [if_neg (fun h => h.elim h1 h2), if_pos h3])
  clear HRC2
  go_wp2
  go_region
  go_wp2
  go_end0
  refine ⟨⟨_, rfl⟩, ⟨rfl, rfl, ?_⟩, ?_⟩
  ·have e1 := row_set R4.out 2 (.int .i64 RC)
   rw [HV.out] at e1 ⊢
   simp only [List.set_cons_zero, List.set_cons_succ] at e1
   exact e1
  ·have HF2 : Fr B w w4 := Fr.below (Fr.refl B w) B4.out
   repeat (first | with_reducible exact HF2 | with_reducible refine Fr.set ?_ _ _ | with_reducible refine Fr.alloc ?_ _ | with_reducible refine Fr.drew ?_)
 by_cases h4 : bd < 10000
 ·have HV : Hid (RC = wrap64 (bd + pr)) := hideP (by rw [HRC2.out]; rw [if_neg (fun h => h.elim h1 h2), if_neg h3, if_pos h4])
  clear HRC2
  go_wp2
  go_region
  go_wp2
  go_end0
  refine ⟨⟨_, rfl⟩, ⟨rfl, rfl, ?_⟩, ?_⟩
  ·have e1 := row_set R4.out 2 (.int .i64 RC)
   rw [HV.out] at e1 ⊢
   simp only [List.set_cons_zero, List.set_cons_succ] at e1
   exact e1
  ·have HF2 : Fr B w w4 := Fr.below (Fr.refl B w) B4.out
   repeat (first | with_reducible exact HF2 | with_reducible refine Fr.set ?_ _ _ | with_reducible refine Fr.alloc ?_ _ | with_reducible refine Fr.drew ?_)
 ·have HV : Hid (RC = 100000) := hideP (by rw [HRC2.out]; rw [if_neg (fun h => h.elim h1 h2), if_neg h3, if_neg h4])
  clear HRC2
  go_wp2
  go_region
  go_wp2
  go_end0
  refine ⟨⟨_, rfl⟩, ⟨rfl, rfl, ?_⟩, ?_⟩
  ·have e1 := row_set R4.out 2 (.int .i64 RC)
   rw [HV.out] at e1 ⊢
   simp only [List.set_cons_zero, List.set_cons_succ] at e1
   exact e1
  ·have HF2 : Fr B w w4 := Fr.below (Fr.refl B w) B4.out
   repeat (first | with_reducible exact HF2 | with_reducible refine Fr.set ?_ _ _ | with_reducible refine Fr.alloc ?_ _ | with_reducible refine Fr.drew ?_)
set_option maxHeartbeats 4000000 in
theorem brkX_any {w : World} {C N uc base : Nat} {ua : Option Addr} {ys : List It} (a : Nat) (hC : w.cell? ⟨C, 9, none⟩ = some (.slice ua N uc)) (hr : w.ownsRow base 186 3 (.slice ua N uc) N (flatI ys)) (hl : ys.length = N) (ha : a ≤ N) (hN : N ≤ 20000) :
 Calls Tryz.prog 91 #[.pointer (some ⟨C, 0, none⟩), .int .i64 (a : Int)] w fun e w' => e = .returned (.tuple #[.int .i64 (ppI ys a), .bool (pbB ys a)]) ∧ Below w.heap.size w w' := by
 have hCl : C < w.heap.size := World.block_lt_of_cell? w _ hC
 by_cases he : a = N
 ·have HB : Hid (pbB ys a = true) := hideP (by unfold pbB; rw [if_pos (by omega)])
  have HC : Hid (ppI ys a = -10000) := hideP (by unfold ppI; rw [if_pos (by omega)])
  have hei : (a : Int) = (N : Int) := by omega
  have heb : ((a : Int) == (N : Int)) = true := by simp [he]
  clear hr
  go_enter Tryz.func91, Tryz.ntmps91
  go_wp2
  refine bodyPost_ret (v := .tuple #[.int .i64 (-10000), .bool true]) (by simp [results, Tryz.results91, go_sem]) rfl ⟨by rw [HB.out, HC.out], ?_⟩
  first | exact Below.refl _ _ | exact below1 _ _
 ·have HB : Hid (pbB ys a = brkB ys a) := hideP (by unfold pbB; rw [if_neg (by omega)])
  have HC : Hid (ppI ys a = brkC ys a) := hideP (by unfold ppI; rw [if_neg (by omega)])
  have hei : ¬ (a : Int) = (N : Int) := by omega
  have heb : ((a : Int) == (N : Int)) = false := by simp; omega
  obtain ⟨g, rfl, _, hgl, hit⟩ := its_row hr hl (by omega)
  have BC : Hid (∀ W, Below w.heap.size w W → Calls Tryz.prog 114 #[.slice (some ⟨g, 0, none⟩) N uc, .int .i64 (a : Int)] W fun e w' => e = .returned (.tuple #[.int .i64 (brkC ys a), .bool (brkB ys a)]) ∧ Below W.heap.size W w') := hideP (fun W hW => breakAt_any a (hit.block (hW.block g hgl)) hl (Nat.lt_of_lt_of_le hgl hW.size) (by omega) hN)
  clear hr hit
  go_enter Tryz.func91, Tryz.ntmps91
  go_wp2_with fail
  refine (BC.out _ (by first | exact Below.refl _ _ | exact below1 _ _)).mono ?_
  rintro e w2 ⟨rfl, hb2⟩
  have B2 : Hid (Below w.heap.size w w2) := hideP (by first | exact hb2 | exact below_more (below1 _ _) hb2 (by simp))
  clear hb2
  go_wp2
  refine bodyPost_ret (v := .tuple #[.int .i64 (brkC ys a), .bool (brkB ys a)]) (by simp [results, Tryz.results91, go_sem]) rfl ⟨by rw [HB.out, HC.out], B2.out⟩
end Go.Proofs.YtlohbaoigfaneaaGreat
namespace Go.Proofs.YtlohbaoigfaneaaGreat
open Go.RowKit Go
set_option linter.unusedVariables false
def LowTo {β : Type} (n : Nat) (J : β → World → Prop) : Prop := ∀ s A C, J s A → Below n A C → J s C
def StopsLow {α : Type} (F : Fence) (n : Nat) (P : Program) (g : Nat) (lb : Array Value) (encs : α → Array Value) (Kp : World → World → Prop) (S : List α → Prop) (w : World) : Prop :=
 ∀ (l : Nat) (J Jx : List α → World → Prop) (W : World), Below w.heap.size w W → LowTo W.heap.size J → LowTo W.heap.size Jx →
  (∀ pre x X, J pre X → YieldAt F (n - 1) P l (encs x) X fun e Y => (e = .returned (.bool true) ∧ J (pre ++ [x]) Y ∧ Kp X Y) ∨ (e = .returned (.bool false) ∧ Jx (pre ++ [x]) Y)) →
  J [] W → CallsIn F n P g (#[.func (.yield l) #[] #[]] ++ lb) W fun e Y => (∃ v, e = .returned v) ∧ ((∃ xs, S xs ∧ J xs Y) ∨ (∃ pre, Jx pre Y))
theorem below_put {n : Nat} (W : World) (l : Nat) (o : Obj) (h : n ≤ l) : Below n W (W.putObj l o) := ⟨rfl, rfl, rfl, by simp, fun k hk => World.putObj_heap_other (by omega)⟩
section
variable {F : Fence} {n : Nat} {P : Program}
def lowPost {α : Type} (Kp : World → World → Prop) (I Ir : List α → World → Prop) (xs : List α) (W : World) : Exit → Act → World → Prop
 | .normal, _, Y => KeepsOthers W Y ∧ Kp W Y ∧ I xs Y
 | .ret, _, Y => KeepsOthers W Y ∧ Ir xs Y
 | _, _, _ => False
theorem wpIn_range_low {α : Type} {g : Operand} {ps : Array Tmp} {assign body : Code} {Q : Exit → Act → World → Prop} {a : Act} {w : World}
 (hro : F.round = none) (h1 : 1 ≤ n) {gf : Nat} {lb : Array Value} (hg : a.eval g = .func (.func gf) #[] lb) (hFg : F.fn gf) (eg : ∀ args w, (callFunc gf args).run P w = .ok (.enter gf args) w)
 {encs : α → Array Value} {Kp : World → World → Prop} {S : List α → Prop} (hseq : StopsLow F (n - 1) P gf lb encs Kp S w)
 (hKt : ∀ {A B C : World}, Kp A B → Kp B C → Kp A C) (hKb : ∀ (W : World) (l : Nat) (o o' : Obj), w.heap.size ≤ l → W.heap[l]? = some o → o.isCells = false → Kp W (W.putObj l o')) (hps : ∀ x, (encs x).size = ps.size)
 (hKa : ∀ {A B : World}, Below A.heap.size A B → Kp A B)
 (I Ir : List α → World → Prop) (hI : LowTo w.heap.size I) (hIr : LowTo w.heap.size Ir) (h0 : I [] w) (a₁ : α → World → Act) (w₁ : α → World → World) (hw₁ : ∀ x W, Below W.heap.size W (w₁ x W))
 (hassign : ∀ (l : Nat) (x : α) (W : World) (K : Act → World → Prop), K (a₁ x W) (w₁ x W) →
  assign.wpIn (F.inRound l) (n - 1 - 1) P (Exit.then K (fun _ _ _ => False)) { tmps := (ps.zip (encs x)).foldl (fun t (p, v) => t.setIfInBounds p v) a.tmps, defers := [] } W)
 (hbody : ∀ (l : Nat) (pre : List α) (x : α) (W X : World), w.heap.size + 1 < W.heap.size → I pre X → (∀ q, W.heap.size ≤ q → X.heap[q]? = (w₁ x W).heap[q]?) → Below w.heap.size W X → body.wpIn (F.inRound l) (n - 1 - 1) P (lowPost Kp I Ir (pre ++ [x]) X) (a₁ x W) X)
 (hdone : ∀ (D : Nat) (xs : List α) (W : World), w.heap.size ≤ D → S xs → I xs W → W.heap[D]? = some (.deferred (some [])) → Q .normal { a with defers := { target := .collected D, args := #[] } :: a.defers } W)
 (hstop : ∀ (D : Nat) (pre : List α) (W : World), w.heap.size ≤ D → Ir pre W → W.heap[D]? = some (.deferred (some [])) → Code.ret.wpIn F n P Q { a with defers := { target := .collected D, args := #[] } :: a.defers } W) :
 (Code.rangeFunc g ps assign body).wpIn F n P Q a w := by
 refine wpIn_rangeFunc (fun fn hfn => ?_)
 rw [hro]
 obtain ⟨rec, hrec⟩ : ∃ rec : LoopState → Option Code → Loop, rec = fun st pe => { state := st, pending := pe, fn, tmps := a.tmps, params := ps, assign, body, defers := w.heap.size } := ⟨_, rfl⟩
 obtain ⟨V, hV⟩ : ∃ V, (w.alloc (.deferred (some []))).alloc (.loop (rec .ready none)) = V := ⟨_, rfl⟩
 have hVs : V.heap.size = w.heap.size + 2 := by rw [← hV]; simp
 have hL : V.heap[w.heap.size + 1]? = some (.loop (rec .ready none)) := by
  rw [← hV]
  have := World.alloc_heap_new (w.alloc (.deferred (some []))) (.loop (rec .ready none))
  rwa [World.size_alloc] at this
 have hD : V.heap[w.heap.size]? = some (.deferred (some [])) := by
  rw [← hV]
  exact (Below.heap_alloc _ _ _ (by simp)).trans (World.alloc_heap_new w _)
 have hb : Below w.heap.size w V := by rw [← hV]; exact ((Below.refl _ w).alloc (Nat.le_refl _) _).alloc (by simp) _
 refine ⟨w.heap.size + 1, [{ target := .collected w.heap.size, args := #[] }], V, { target := .fn (.func gf) lb, args := #[.func (.yield (w.heap.size + 1)) #[] #[]] }, V, gf,
  #[.func (.yield (w.heap.size + 1)) #[] #[]] ++ lb, V, ?_, ?_, ?_, ?_, fun _ => h1, ?_⟩
 ·rw [← hV, hrec]
  exact run_enterLoop_outer _ _ _ _ _
 ·simp only [resolve, hg]
  simp [go_sem]
 ·intro f' hf'
  simp [Target.leads] at hf'
  subst hf'
  exact hFg
 ·simp [invoke, go_sem, eg]
 ·have low : ∀ {A C : World}, Below V.heap.size A C → Below w.heap.size A C ∧ C.heap[w.heap.size + 1]? = A.heap[w.heap.size + 1]? ∧ C.heap[w.heap.size]? = A.heap[w.heap.size]? := fun h => ⟨h.mono (by omega), h.block _ (by omega), h.block _ (by omega)⟩
  refine (hseq (w.heap.size + 1)
   (fun pre W => (I pre W ∧ w.heap.size + 1 < W.heap.size) ∧ W.heap[w.heap.size + 1]? = some (.loop (rec .ready none)) ∧ W.heap[w.heap.size]? = some (.deferred (some [])))
   (fun pre W => Ir pre W ∧ W.heap[w.heap.size + 1]? = some (.loop (rec .done (some .ret))) ∧ W.heap[w.heap.size]? = some (.deferred (some [])))
   V hb
   (fun s A C hs h => ⟨⟨hI s A C hs.1.1 (low h).1, Nat.lt_of_lt_of_le hs.1.2 h.size⟩, (low h).2.1.trans hs.2.1, (low h).2.2.trans hs.2.2⟩)
   (fun s A C hs h => ⟨hIr s A C hs.1 (low h).1, (low h).2.1.trans hs.2.1, (low h).2.2.trans hs.2.2⟩)
   ?_ ⟨⟨hI _ _ _ h0 hb, by omega⟩, hL, hD⟩).mono ?_
  ·rintro pre x W ⟨⟨hi, hlt⟩, hl, hk⟩
   have hy := run_yield (P := P) (args := encs x) hl (by rw [hrec]; exact hps x)
   rw [hrec] at hy
   have hlw : (w₁ x W).heap[w.heap.size + 1]? = some (.loop (rec .ready none)) := ((hw₁ x W).block _ hlt).trans hl
   have hkw : (w₁ x W).heap[w.heap.size]? = some (.deferred (some [])) := ((hw₁ x W).block _ (by omega)).trans hk
   have hltw : w.heap.size + 1 < (w₁ x W).heap.size := Nat.lt_of_lt_of_le hlt (hw₁ x W).size
   refine ⟨fn, _, assign, body, hy, roundIn_of_wpIn hfn (hassign _ x W _ ⟨_, run_beginRound hlw (by rw [hrec]), ?_⟩)⟩
   obtain ⟨X, hX⟩ : ∃ X, X = (w₁ x W).putObj (w.heap.size + 1) (.loop { rec .ready none with state := .busy }) := ⟨_, rfl⟩
   have hl2 : X.heap[w.heap.size + 1]? = some (.loop { rec .ready none with state := .busy }) := by rw [hX]; exact World.putObj_heap_same hltw
   have hk2 : X.heap[w.heap.size]? = some (.deferred (some [])) := by rw [hX]; exact (World.putObj_heap_other (by omega)).trans hkw
   have hw2 : Kp W X := by rw [hX]; exact hKt (hKa (hw₁ x W)) (hKb _ _ _ _ (by omega) hlw rfl)
   have hbX : Below w.heap.size W X := by rw [hX]; exact ((hw₁ x W).mono (by omega)).trans (below_put _ _ _ (by omega))
   have hi2 : I pre X := hI _ _ _ hi hbX
   have hs2 : w.heap.size + 1 < X.heap.size := (Array.getElem?_eq_some_iff.1 hl2).1
   have hq2 : ∀ q, W.heap.size ≤ q → X.heap[q]? = (w₁ x W).heap[q]? := fun q hq => by rw [hX]; exact World.putObj_heap_other (by omega)
   rw [← hX]
   refine wpIn_mono (hbody _ pre x W _ hlt hi2 hq2 hbX) ?_
   have fin : ∀ (jump : Option Code) (Y : World), KeepsOthers X Y →
    (Instr.endRound (w.heap.size + 1) jump).run P Y = .ok (.bool jump.isNone) (Y.putObj (w.heap.size + 1) (.loop (rec (if jump.isNone then .ready else .done) jump))) ∧
    Y.heap[w.heap.size + 1]? = some (.loop { rec .ready none with state := .busy }) ∧
    (Y.putObj (w.heap.size + 1) (.loop (rec (if jump.isNone then .ready else .done) jump))).heap[w.heap.size + 1]? = some (.loop (rec (if jump.isNone then .ready else .done) jump)) ∧
    (Y.putObj (w.heap.size + 1) (.loop (rec (if jump.isNone then .ready else .done) jump))).heap[w.heap.size]? = some (.deferred (some [])) := fun jump Y hk3 => by
    have hl3 := hk3.same _ _ hl2 rfl
    have h := run_endRound (P := P) jump hl3
    rw [hrec] at h ⊢
    exact ⟨h, by rw [hrec] at hl3; exact hl3, World.putObj_heap_same (Array.getElem?_eq_some_iff.1 hl3).1, (World.putObj_heap_other (by omega)).trans (hk3.same _ _ hk2 rfl)⟩
   rintro e a3 Y hp
   cases e with
   | normal =>
    obtain ⟨hk3, hkp3, hi3⟩ := hp
    obtain ⟨hr, hl3, hl4, hk4⟩ := fin none Y hk3
    exact ⟨_, _, hr, .inl ⟨rfl, ⟨⟨hI _ _ _ hi3 (below_put Y _ _ (by omega)), (Array.getElem?_eq_some_iff.1 hl4).1⟩, hl4, hk4⟩, hKt (hKt hw2 hkp3) (hKb _ _ _ _ (by omega) hl3 rfl)⟩⟩
   | ret =>
    obtain ⟨hk3, hi3⟩ := hp
    obtain ⟨hr, hl3, hl4, hk4⟩ := fin (some .ret) Y hk3
    exact ⟨_, _, hr, .inr ⟨rfl, hIr _ _ _ hi3 (below_put Y _ _ (by omega)), hl4, hk4⟩⟩
   | exit id => exact hp.elim
   | goto t => exact hp.elim
   | panic ch => exact hp.elim
   | outgrown => exact hp.elim
  ·rintro e Y ⟨⟨v, rfl⟩, (⟨xs, hS, hi, hl, hk⟩ | ⟨pre, hi, hl, hk⟩)⟩
   ·exact ⟨none, _, by have := run_endLoop (P := P) hl (by rw [hrec]; simp); rw [hrec] at this; exact this, hdone _ xs _ (Nat.le_refl _) hS (hI _ _ _ hi.1 (below_put Y _ _ (by omega))) ((World.putObj_heap_other (by omega)).trans hk)⟩
   ·exact ⟨some .ret, _, by have := run_endLoop (P := P) hl (by rw [hrec]; simp); rw [hrec] at this; exact this, hstop _ pre _ (Nat.le_refl _) (hIr _ _ _ hi (below_put Y _ _ (by omega))) ((World.putObj_heap_other (by omega)).trans hk)⟩
end
end Go.Proofs.YtlohbaoigfaneaaGreat
namespace Go.Proofs.YtlohbaoigfaneaaGreat
open Go.RowKit
set_option linter.unusedVariables false
set_option linter.unusedSimpArgs false
structure Trl where
 em : Bool
 hn : Bool
 A : List Int
 L : List Int
 hg : Int
def trl0 : Trl := ⟨true, false, [0, 0, 0, 0, 0, 0, 0, 0, 0, 0], [0, 0, 0, 0, 0, 0, 0, 0, 0, 0], 0⟩
def trlAdd (x : Nd) (I : List Int) (s : Trl) : Trl := if x.k = 11 then ⟨false, true, s.A, lowI x I s.L, wrap64 (s.hg + x.ht)⟩ else ⟨false, s.hn, pAdI 0 x s.A, s.L, s.hg⟩
def inI (Z : List Int) (k : Nat) : List Int := (Z.drop (k * 10)).take 10
def trlS (ys : List It) (Z : List Int) (f : Nat) : Nat → Trl
 | 0 => trl0
 | j + 1 => if ((trlS ys Z f j).em && discB (ys.getD (f + j) It.none).1) = true then trlS ys Z f j else trlAdd (ys.getD (f + j) It.none).1 (inI Z (f + j)) (trlS ys Z f j)
theorem trlS_len (ys : List It) (Z : List Int) (f : Nat) : ∀ j, (trlS ys Z f j).A.length = 10 ∧ (trlS ys Z f j).L.length = 10
 | 0 => ⟨rfl, rfl⟩
 | j + 1 => by
  have ih := trlS_len ys Z f j
  rw [trlS]
  split
  ·exact ih
  ·unfold trlAdd
   split
   ·exact ⟨ih.1, lowI_len _ _ _ ih.2⟩
   ·exact ⟨by rw [pAdI_len]; exact ih.1, ih.2⟩
def triV (tt pr : Int) (s : Trl) : Value := .agg (triP tt pr 0 s.em s.hn ++ s.A.map (Value.int .i64) ++ (s.L.map (Value.int .i64) ++ [Value.int .i64 s.hg])).toArray
def triE (ys : List It) (Z : List Int) (f : Nat) (k : Nat) : Array Value := #[triV k (ppI ys k) (trlS ys Z f (k - f))]
def brks (ys : List It) (f k : Nat) : List Nat := (List.range' f (k - f)).filter (fun i => pbB ys i)
theorem brks_self (ys : List It) (f : Nat) : brks ys f f = [] := by simp [brks]
theorem brks_succ (ys : List It) {f k : Nat} (h : f ≤ k) : brks ys f (k + 1) = if pbB ys k = true then brks ys f k ++ [k] else brks ys f k := by
 unfold brks
 rw [show k + 1 - f = (k - f) + 1 by omega, List.range'_concat, List.filter_append, show f + 1 * (k - f) = k by omega]
 cases h : pbB ys k <;> simp [h]
theorem brks_mem (ys : List It) {f k i : Nat} (h1 : f ≤ i) (h2 : i < k) (h3 : pbB ys i = true) : i ∈ brks ys f k := by
 unfold brks
 rw [List.mem_filter]
 exact ⟨List.mem_range'_1.2 ⟨h1, by omega⟩, h3⟩
def KeptC (A B : World) : Prop := A.heap.size ≤ B.heap.size ∧ ∀ (q : Nat) (o : Obj), A.heap[q]? = some o → o.isCells = true → B.heap[q]? = some o
theorem KeptC.trans {A B C : World} (h : KeptC A B) (k : KeptC B C) : KeptC A C := ⟨Nat.le_trans h.1 k.1, fun q o hq ho => k.2 q o (h.2 q o hq ho) ho⟩
theorem KeptC.of_below {A B : World} (h : Below A.heap.size A B) : KeptC A B := ⟨h.size, fun q o hq _ => (h.block q (Array.getElem?_eq_some_iff.1 hq).1).trans hq⟩
theorem KeptC.put (W : World) (l : Nat) {o : Obj} (o' : Obj) (hl : W.heap[l]? = some o) (ho : o.isCells = false) : KeptC W (W.putObj l o') := ⟨by simp, fun q x hq hx => by
 by_cases e : q = l
 ·subst e
  rw [hl] at hq
  cases hq
  rw [ho] at hx
  cases hx
 ·exact (World.putObj_heap_other e).trans hq⟩
theorem KeptC.cell {A B : World} (h : KeptC A B) {a : Addr} {v : Value} (hc : A.cell? a = some v) : B.cell? a = some v := by
 obtain ⟨o, ho, hoc⟩ := cells_of_cell hc
 exact (World.cell?_of_block ((h.2 _ _ ho hoc).trans ho.symm)).trans hc
structure TS (W : World) (FB CB C D g f N uc : Nat) (ua : Option Addr) (ys : List It) (Z : List Int) : Prop where
 fb : W.cell? ⟨FB, 0, none⟩ = some (.int .i64 (f : Int))
 cb : W.cell? ⟨CB, 0, none⟩ = some (.pointer (some ⟨C, 0, none⟩))
 c9 : W.cell? ⟨C, 9, none⟩ = some (.slice ua N uc)
 c10 : W.cell? ⟨C, 10, none⟩ = some (.slice (some ⟨D, 0, none⟩) N N)
 un : 0 < N → ua = some ⟨g, 0, none⟩
 it : ItR W g ys
 zs : W.heap[D]? = some (.cells (Z.map (Value.int .i64)).toArray 118 (0, 0))
theorem TS.kept {A B : World} {FB CB C D g f N uc : Nat} {ua : Option Addr} {ys : List It} {Z : List Int} (h : TS A FB CB C D g f N uc ua ys Z) (k : KeptC A B) : TS B FB CB C D g f N uc ua ys Z :=
 ⟨k.cell h.fb, k.cell h.cb, k.cell h.c9, k.cell h.c10, h.un, ⟨fun i hi => k.cell (h.it.c0 i hi), fun i hi => k.cell (h.it.c1 i hi), fun i hi => k.cell (h.it.c2 i hi)⟩, k.2 _ _ h.zs rfl⟩
set_option maxHeartbeats 4000000 in
theorem brkI_any {w : World} {C N uc g : Nat} {ua : Option Addr} {ys : List It} (a : Nat) (hC : w.cell? ⟨C, 9, none⟩ = some (.slice ua N uc)) (hu : 0 < N → ua = some ⟨g, 0, none⟩) (hit : ItR w g ys) (hl : ys.length = N) (ha : a ≤ N) (hN : N ≤ 20000) :
 Calls Tryz.prog 91 #[.pointer (some ⟨C, 0, none⟩), .int .i64 (a : Int)] w fun e w' => e = .returned (.tuple #[.int .i64 (ppI ys a), .bool (pbB ys a)]) ∧ Below w.heap.size w w' := by
 have hCl : C < w.heap.size := World.block_lt_of_cell? w _ hC
 by_cases he : a = N
 ·have HB : Hid (pbB ys a = true) := hideP (by unfold pbB; rw [if_pos (by omega)])
  have HC : Hid (ppI ys a = -10000) := hideP (by unfold ppI; rw [if_pos (by omega)])
  have hei : (a : Int) = (N : Int) := by omega
  have heb : ((a : Int) == (N : Int)) = true := by simp [he]
  clear hit hu
  go_enter Tryz.func91, Tryz.ntmps91
  go_wp2
  refine bodyPost_ret (v := .tuple #[.int .i64 (-10000), .bool true]) (by simp [results, Tryz.results91, go_sem]) rfl ⟨by rw [HB.out, HC.out], ?_⟩
  first | exact Below.refl _ _ | exact below1 _ _
 ·have HB : Hid (pbB ys a = brkB ys a) := hideP (by unfold pbB; rw [if_neg (by omega)])
  have HC : Hid (ppI ys a = brkC ys a) := hideP (by unfold ppI; rw [if_neg (by omega)])
  have hei : ¬ (a : Int) = (N : Int) := by omega
  have heb : ((a : Int) == (N : Int)) = false := by simp; omega
  obtain rfl := hu (by omega)
  have hgl : g < w.heap.size := World.block_lt_of_cell? w _ (hit.c0 0 (by omega))
  have BC : Hid (∀ W, Below w.heap.size w W → Calls Tryz.prog 114 #[.slice (some ⟨g, 0, none⟩) N uc, .int .i64 (a : Int)] W fun e w' => e = .returned (.tuple #[.int .i64 (brkC ys a), .bool (brkB ys a)]) ∧ Below W.heap.size W w') := hideP (fun W hW => breakAt_any a (hit.block (hW.block g hgl)) hl (Nat.lt_of_lt_of_le hgl hW.size) (by omega) hN)
  clear hit hu
  go_enter Tryz.func91, Tryz.ntmps91
  go_wp2_with fail
  refine (BC.out _ (by first | exact Below.refl _ _ | exact below1 _ _)).mono ?_
  rintro e w2 ⟨rfl, hb2⟩
  have B2 : Hid (Below w.heap.size w w2) := hideP (by first | exact hb2 | exact below_more (below1 _ _) hb2 (by simp))
  clear hb2
  go_wp2
  refine bodyPost_ret (v := .tuple #[.int .i64 (brkC ys a), .bool (brkB ys a)]) (by simp [results, Tryz.results91, go_sem]) rfl ⟨by rw [HB.out, HC.out], B2.out⟩
set_option maxHeartbeats 1000000 in
theorem trials_any (C : Nat) (f : Int) (w : World) :
 Calls Tryz.prog 45 #[.pointer (some ⟨C, 0, none⟩), .int .i64 f] w fun e w' => e = .returned (.func (.func 92) #[] #[.pointer (some ⟨w.heap.size + 1, 0, none⟩), .pointer (some ⟨w.heap.size, 0, none⟩)]) ∧ w' = (w.alloc (.cells #[.pointer (some ⟨C, 0, none⟩)] 107)).alloc (.cells #[.int .i64 f] 3) := by
 go_enter Tryz.func45, Tryz.ntmps45
 go_wp2
 go_ret
 exact ⟨rfl, rfl⟩
end Go.Proofs.YtlohbaoigfaneaaGreat
