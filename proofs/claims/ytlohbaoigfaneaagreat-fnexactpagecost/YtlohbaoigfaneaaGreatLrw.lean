import Derived.Test.YtlohbaoigfaneaaGreatMak
import Derived.Test.YtlohbaoigfaneaaGreatTrn
import Derived.Test.YtlohbaoigfaneaaGreatItx
import Derived.Test.YtlohbaoigfaneaaGreatLis
namespace Go.Proofs.YtlohbaoigfaneaaGreat
open Go.RowKit
set_option linter.unusedVariables false
set_option linter.unusedSimpArgs false
structure Sy where
 wd : Int
 nw : Int
 hg : Int
 tl : Int
 ln : Int
 hy : Int
 du : Int
 ad : Int
 l0 : Int
 l1 : Int
 l2 : Int
 l3 : Int
 l4 : Int
 r0 : Int
 r1 : Int
 r2 : Int
 r3 : Int
 r4 : Int
 f0 : Int
 f1 : Int
 f2 : Int
 f3 : Int
 f4 : Int
def syB (x : Sy) : Bool := (uptoB x.wd 1073741823 && uptoB x.nw 1073741823 && uptoB x.hg 4) && (uptoB x.tl 10000 && uptoB x.ln 10000 && uptoB x.hy 10000) && (uptoB x.du 1000000 && uptoB x.ad 1000000) && glB x.l0 x.l1 x.l2 x.l3 x.l4 && glB x.r0 x.r1 x.r2 x.r3 x.r4 && glB x.f0 x.f1 x.f2 x.f3 x.f4
theorem seg_of {xs : List Nd} (h : AllOk xs) {p : Nat} (hp : p < xs.length) : segA xs (itAt xs p) = (if (xs.getD p Nd.none).k = 11 then [] else itemAt xs p) ∧ segB xs (itAt xs p) = (if (xs.getD p Nd.none).k = 11 then (itemAt xs p).tail else []) := by
 have hk := h.kids p hp
 unfold segA segB itAt itemAt
 simp only
 obtain ⟨kn, hkn⟩ : ∃ kn : Nat, (xs.getD p Nd.none).kids = kn := ⟨_, (Int.toNat_of_nonneg hk.1).symm⟩
 rw [hkn]
 have e1 : ((p : Int) + 1 + (kn : Int) - (p : Int)).toNat = 1 + kn := by omega
 have e2 : ((p : Int) + 1 + (kn : Int) - (p : Int) - 1).toNat = kn := by omega
 have e3 : ((kn : Nat) : Int).toNat = kn := by omega
 have e4 : ((p : Nat) : Int).toNat = p := by omega
 rw [e1, e2, e3, e4]
 refine ⟨rfl, ?_⟩
 split
 ·rw [List.drop_eq_getElem_cons hp, Nat.add_comm 1 kn, List.take_succ_cons, List.tail_cons]
 ·rfl
theorem seg_le {xs : List Nd} (h : AllOk xs) {p : Nat} (hp : p < xs.length) : (segA xs (itAt xs p)).length + (segB xs (itAt xs p)).length ≤ (itemAt xs p).length := by
 obtain ⟨h1, h2⟩ := seg_of h hp
 rw [h1, h2]
 split
 ·simp
 ·simp
theorem segs_sum {xs : List Nd} (h : AllOk xs) : ∀ ps : List Nat, (∀ p ∈ ps, p < xs.length) → ((ps.map (itAt xs)).flatMap (segA xs)).length + ((ps.map (itAt xs)).flatMap (segB xs)).length ≤ (ps.map (fun p => (itemAt xs p).length)).sum
 | [], _ => by simp
 | p :: ps, hp => by
  have h1 := seg_le h (hp p (by simp))
  have h2 := segs_sum h ps (fun q hq => hp q (by simp [hq]))
  simp only [List.map_cons, List.flatMap_cons, List.length_append, List.sum_cons]
  omega
theorem sum_app : ∀ (a b : List Nat), (a ++ b).sum = a.sum + b.sum
 | [], b => by simp
 | x :: a, b => by rw [List.cons_append, List.sum_cons, List.sum_cons, sum_app a b]; omega
theorem sum_sub (l : List Nat) (s m : Nat) : ((l.drop s).take m).sum ≤ l.sum := by
 have h1 := congrArg List.sum (List.take_append_drop s l)
 have h2 := congrArg List.sum (List.take_append_drop m (l.drop s))
 rw [sum_app] at h1 h2
 omega
theorem page_len {xs : List Nd} (h : AllOk xs) (s m : Nat) : ((((its xs).drop s).take m).flatMap (segA xs)).length + ((((its xs).drop s).take m).flatMap (segB xs)).length ≤ 20000 := by
 unfold its
 rw [← List.map_drop, ← List.map_take]
 refine Nat.le_trans (segs_sum h _ (fun p hp => starts_lt xs _ _ p (List.mem_of_mem_drop (List.mem_of_mem_take hp)))) ?_
 rw [List.map_take, List.map_drop]
 refine Nat.le_trans (sum_sub _ _ _) ?_
 have h2 := starts_sum h (xs.length + 1) 0 (by omega)
 have h3 := h.len
 omega
def trm (ys : List It) : Nat → Nat
 | 0 => 0
 | m + 1 => if (ys.getD m It.none).1.k = 3 then trm ys m else m + 1
def penN (n : Int) : Nd := ⟨4, 0, 0, 0, 0, 0, 0, n, 0, 0, 0, 0, 0, ⟨#[]⟩, 0⟩
end Go.Proofs.YtlohbaoigfaneaaGreat
