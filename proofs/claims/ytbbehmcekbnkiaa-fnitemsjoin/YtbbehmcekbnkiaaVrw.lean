/-
  What a stack sums to (pure).
-/
import Derived.Test.YtbbehmcekbnkiaaWan
import Derived.Deep.RegionHeld3
import Derived.RangeFuncNested
import Derived.RangeFuncBound
import Derived.RangeFuncCalls
import Derived.RangeFuncLeaves
import Derived.Shelf.Abstract
import Derived.Shelf.RegionOpen
import Derived.WalkKit
import Derived.OwnWalkIn
import Derived.TacticsInMore
import Derived.LoopNIn
import Derived.LoopIn
import Derived.Test.YtbbehmcekbnkiaaTha
import Derived.Lib.AppendZerosOnto
import Derived.Laws.AppendOwnNone
import Derived.Test.YtbbehmcekbnkiaaHso
namespace Go.Proofs.Ytbbehmcekbnkiaa
open Go.RowKit
set_option linter.unusedVariables false
set_option linter.unusedSimpArgs false


/-- All blocks stand but those of S. -/
structure Frs (S : Nat → Prop) (w w' : World) : Prop where
  os : w'.os = w.os
  tape : w'.tape = w.tape
  out : w'.output = w.output
  size : w.heap.size ≤ w'.heap.size
  block : ∀ b, b < w.heap.size → ¬ S b → w'.heap[b]? = w.heap[b]?
theorem Frs.refl (S : Nat → Prop) (w : World) : Frs S w w := ⟨rfl, rfl, rfl, Nat.le_refl _, fun _ _ _ => rfl⟩
theorem Frs.below {S : Nat → Prop} {w a b : World} (h : Frs S w a) (hb : Below a.heap.size a b) : Frs S w b :=
  ⟨hb.os.trans h.os, hb.tape.trans h.tape, hb.output.trans h.out, Nat.le_trans h.size hb.size, fun x hx hn => (hb.block x (Nat.lt_of_lt_of_le hx h.size)).trans (h.block x hx hn)⟩
theorem Frs.grown {S : Nat → Prop} {w a b : World} {r : Option Nat} (h : Frs S w a) (hg : a.grownBy b r) (hr : ∀ j, r = some j → S j ∨ w.heap.size ≤ j) : Frs S w b :=
  ⟨hg.os.trans h.os, hg.tape.trans h.tape, hg.output.trans h.out, Nat.le_trans h.size hg.size, fun x hx hn => (hg.block x (Nat.lt_of_lt_of_le hx h.size) (fun e => by rcases hr x e.symm with h1 | h1; exact hn h1; omega)).trans (h.block x hx hn)⟩
theorem Frs.set {S : Nat → Prop} {w a : World} (h : Frs S w a) {p : Addr} (hp : S p.block) (v : Value) : Frs S w (a.setCell p v) :=
  ⟨h.os, h.tape, h.out, by simpa [World.setCell] using h.size, fun x hx hn => (Below.heap_setCell _ _ _ _ (fun e => hn (by rw [e]; exact hp))).trans (h.block x hx hn)⟩
theorem Frs.toBelow {S : Nat → Prop} {B : Nat} {w0 w a : World} (h0 : Below B w0 w) (h : Frs S w a) (hS : ∀ b, S b → B ≤ b) (hB : B ≤ w.heap.size) : Below B w0 a :=
  ⟨h.os.trans h0.os, h.tape.trans h0.tape, h.out.trans h0.output, Nat.le_trans h0.size h.size, fun k hk => (h.block k (Nat.lt_of_lt_of_le hk hB) (fun hs => by have := hS k hs; omega)).trans (h0.block k hk)⟩


theorem Frs.drew {S : Nat → Prop} {w a : World} (h : Frs S w a) : Frs S w a.drew := ⟨h.os, h.tape, h.out, h.size, h.block⟩
theorem Frs.alloc {S : Nat → Prop} {w a : World} (h : Frs S w a) (o : Obj) : Frs S w (a.alloc o) := h.below (below1 _ _)

/-- A row that can be put behind another: its cells, wherever it lies. -/
def Put (w : World) (v : Value) (m : Nat) (L : List Value) : Prop := ∃ ao cap, v = .slice ao m cap ∧ L.length = m * 15 ∧ (∀ u ∈ L, u.oneCell' = true) ∧ ((ao = none ∧ m = 0 ∧ cap = 0) ∨ ∃ b off, ao = some ⟨b, off, none⟩ ∧ b < w.heap.size ∧ ∀ j u, L[j]? = some u → w.cell? ⟨b, off + j, none⟩ = some u)
theorem Put.below {w w' : World} {B : Nat} {v : Value} {m : Nat} {L : List Value} (h : Put w v m L) (hb : Below B w w') (hB : w.heap.size ≤ B) : Put w' v m L := by
  obtain ⟨ao, cap, rfl, h1, h2, h3⟩ := h
  refine ⟨ao, cap, rfl, h1, h2, ?_⟩
  rcases h3 with h3 | ⟨b, off, e, h4, h5⟩
  · exact .inl h3
  · exact .inr ⟨b, off, e, Nat.lt_of_lt_of_le h4 hb.size, fun j u hj => (hb.cell (p := ⟨b, off + j, none⟩) (Nat.lt_of_lt_of_le h4 hB)).trans (h5 j u hj)⟩

theorem hpS_n (xs : List Nd) : (hpS xs).gs.length = (gluesAt xs (begins xs)).length := by
  unfold hpS begins
  rw [rowTo_gs, List.length_map]
theorem list_good {xs : List Nd} (h : listB xs = true) : xs.all goodB = true := by
  unfold listB at h
  simp only [Bool.and_eq_true] at h
  have h2 := h.2
  rw [okFrom_split] at h2
  simp only [Bool.and_eq_true] at h2
  exact h2.2
theorem list_in {xs : List Nd} (h : listB xs = true) : ∀ i, i < xs.length → NdIn (xs.getD i Nd.none) := fun i hi => good_in (all_getD.1 (list_good h) i hi)

/-- In a stack: w how tall it is but for its glues, h how wide, d the depth of the last item. -/
def RS.pile (s : RS) (x : Nd) : RS := ⟨s.w + (x.ht + x.dp), Shr.mxI s.h (x.wd + x.sh), x.dp, s.gs⟩
def RS.drop (s : RS) (x : Nd) : RS := ⟨s.w + x.wd, s.h, 0, s.gs⟩
def RS.gap (s : RS) (x : Nd) : RS := ⟨s.w, s.h, 0, s.gs ++ [glOf x]⟩
def RS.pass (s : RS) : RS := ⟨s.w, s.h, 0, s.gs⟩
def pileB (x : Nd) : Bool := x.k == 5 || x.k == 6 || x.k == 7
def stkStep (s : RS) (x : Nd) : RS := if pileB x then s.pile x else if x.k = 2 then s.drop x else if x.k = 3 then s.gap x else s.pass
theorem stkStep_2 {s : RS} {x : Nd} (h : x.k = 2) : stkStep s x = s.drop x := by simp [stkStep, pileB, h]
theorem stkStep_3 {s : RS} {x : Nd} (h : x.k = 3) : stkStep s x = s.gap x := by simp [stkStep, pileB, h]
theorem stkStep_0 {s : RS} {x : Nd} (h2 : x.k ≠ 2) (h3 : x.k ≠ 3) (h5 : x.k ≠ 5) (h6 : x.k ≠ 6) (h7 : x.k ≠ 7) : stkStep s x = s.pass := by simp [stkStep, pileB, h2, h3, h5, h6, h7]
def stkTo (xs : List Nd) (ps : List Nat) : RS := ps.foldl (fun s p => stkStep s (xs.getD p Nd.none)) RS.nil
theorem stkTo_snoc (xs : List Nd) (ps : List Nat) (p : Nat) : stkTo xs (ps ++ [p]) = stkStep (stkTo xs ps) (xs.getD p Nd.none) := by simp [stkTo]
/-- So much it can be at most behind j items. -/
structure VIn (s : RS) (j : Nat) : Prop where
  w1 : -(2147483646 * (j : Int)) ≤ s.w
  w2 : s.w ≤ 2147483646 * (j : Int)
  h1 : 0 ≤ s.h
  h2 : s.h ≤ 2147483646
  d1 : -1073741823 ≤ s.d
  d2 : s.d ≤ 1073741823
  n : s.gs.length ≤ j
  ok : ∀ g ∈ s.gs, g.ok = true
theorem VIn.nil : VIn RS.nil 0 := ⟨by simp [RS.nil], by simp [RS.nil], by simp [RS.nil], by simp [RS.nil], by simp [RS.nil], by simp [RS.nil], by simp [RS.nil], by simp [RS.nil]⟩
theorem VIn.step {s : RS} {j : Nat} {x : Nd} (h : VIn s j) (hx : NdIn x) : VIn (stkStep s x) (j + 1) := by
  obtain ⟨⟨a1, a2⟩, a3⟩ := mxI_in (a := s.h) (b := x.wd + x.sh)
  have := h.w1
  have := h.w2
  have := h.h1
  have := h.h2
  have := h.n
  have := hx.wd
  have := hx.ht
  have := hx.dp
  have := hx.sh
  unfold stkStep
  split
  · refine ⟨by simp only [RS.pile]; push_cast; omega, by simp only [RS.pile]; push_cast; omega, ?_, ?_, by simp only [RS.pile]; omega, by simp only [RS.pile]; omega, by simp only [RS.pile]; omega, h.ok⟩
    · simp only [RS.pile]; omega
    · simp only [RS.pile]; rcases a3 with a3 | a3 <;> omega
  · split
    · exact ⟨by simp only [RS.drop]; push_cast; omega, by simp only [RS.drop]; push_cast; omega, h.h1, h.h2, by simp only [RS.drop]; omega, by simp only [RS.drop]; omega, by simp only [RS.drop]; omega, h.ok⟩
    · split
      · refine ⟨by simp only [RS.gap]; push_cast; omega, by simp only [RS.gap]; push_cast; omega, h.h1, h.h2, by simp only [RS.gap]; omega, by simp only [RS.gap]; omega, by simp only [RS.gap, List.length_append, List.length_singleton]; omega, fun g hg => ?_⟩
        rcases List.mem_append.1 hg with hg | hg
        · exact h.ok g hg
        · rw [List.mem_singleton.1 hg]; exact hx.gl
      · exact ⟨by simp only [RS.pass]; push_cast; omega, by simp only [RS.pass]; push_cast; omega, h.h1, h.h2, by simp only [RS.pass]; omega, by simp only [RS.pass]; omega, by simp only [RS.pass]; omega, h.ok⟩
theorem stkTo_in_aux (xs : List Nd) (hx : ∀ i, i < xs.length → NdIn (xs.getD i Nd.none)) : ∀ (ps : List Nat) (s : RS) (j : Nat), (∀ p ∈ ps, p < xs.length) → VIn s j → VIn (ps.foldl (fun s p => stkStep s (xs.getD p Nd.none)) s) (j + ps.length)
  | [], s, j, _, h => h
  | p :: ps, s, j, hp, h => by
    have h1 := stkTo_in_aux xs hx ps _ _ (fun q hq => hp q (List.mem_cons_of_mem _ hq)) (h.step (hx p (hp p (List.mem_cons_self ..))))
    rw [List.foldl_cons, List.length_cons, show j + (ps.length + 1) = j + 1 + ps.length by omega]
    exact h1
theorem stkTo_in (xs : List Nd) (hx : ∀ i, i < xs.length → NdIn (xs.getD i Nd.none)) (ps : List Nat) (h : ∀ p ∈ ps, p < xs.length) : VIn (stkTo xs ps) ps.length := by
  have h1 := stkTo_in_aux xs hx ps RS.nil 0 h VIn.nil
  rw [Nat.zero_add] at h1
  exact h1
theorem stkStep_gs (s : RS) (x : Nd) : (stkStep s x).gs = if x.k = 3 then s.gs ++ [glOf x] else s.gs := by
  by_cases h : x.k = 3
  · rw [stkStep_3 h, if_pos h]
    rfl
  · rw [if_neg h]
    unfold stkStep
    split
    · rfl
    · split
      · rfl
      · rfl
theorem stkTo_gs_aux (xs : List Nd) : ∀ (Z : List Nat) (s t : RS), s.gs = t.gs → (Z.foldl (fun s p => stkStep s (xs.getD p Nd.none)) s).gs = (Z.foldl (fun s p => rowStep s (xs.getD p Nd.none)) t).gs
  | [], s, t, h => h
  | p :: Z, s, t, h => by
    rw [List.foldl_cons, List.foldl_cons]
    exact stkTo_gs_aux xs Z _ _ (by rw [stkStep_gs, rowStep_gs, h])
theorem stkTo_gs (xs : List Nd) (Z : List Nat) : (stkTo xs Z).gs = (rowTo xs Z).gs := stkTo_gs_aux xs Z _ _ rfl
/-- A stack with a bound on its depth. -/
def mnI (a b : Int) : Int := if b < a then b else a
def vpS (xs : List Nd) (deep : Int) : RS := ⟨(stkTo xs (begins xs)).w - mnI (stkTo xs (begins xs)).d deep, (stkTo xs (begins xs)).h, mnI (stkTo xs (begins xs)).d deep, (stkTo xs (begins xs)).gs⟩
theorem vpS_gs (xs : List Nd) (deep : Int) : (vpS xs deep).gs = (hpS xs).gs := stkTo_gs xs _
/-- What is known of a stack's sums. -/
structure SIn (s : RS) (j : Nat) : Prop where
  w1 : -(2147483646 * (j : Int)) - 2147483646 ≤ s.w
  w2 : s.w ≤ 2147483646 * (j : Int) + 2147483646
  h1 : 0 ≤ s.h
  h2 : s.h ≤ 2147483646
  d1 : -1073741823 ≤ s.d
  d2 : s.d ≤ 1073741823
  n : s.gs.length ≤ j
  ok : ∀ g ∈ s.gs, g.ok = true
theorem vpS_in {xs : List Nd} {deep : Int} (h : listB xs = true) (hd : 0 ≤ deep) : SIn (vpS xs deep) (begins xs).length := by
  have hv := stkTo_in xs (list_in h) (begins xs) (fun p hp => starts_lt xs _ _ p hp)
  have := hv.w1
  have := hv.w2
  have := hv.d1
  have := hv.d2
  have hm : -1073741823 ≤ mnI (stkTo xs (begins xs)).d deep ∧ mnI (stkTo xs (begins xs)).d deep ≤ 1073741823 := by
    unfold mnI
    split <;> omega
  exact ⟨by simp only [vpS]; omega, by simp only [vpS]; omega, hv.h1, hv.h2, by simp only [vpS]; omega, by simp only [vpS]; omega, hv.n, hv.ok⟩
def vpTo (xs : List Nd) (deep mode size : Int) : Int := Shr.alongI (vpS xs deep).w (vpS xs deep).gs mode size
def vpQ (xs : List Nd) (deep mode size : Int) : Int := vpTo xs deep mode size - (vpS xs deep).w - Shr.siz (vpS xs deep).gs
def vpL (xs : List Nd) (deep mode size : Int) : List Int := Shr.shareL (vpS xs deep).gs (vpQ xs deep mode size)
def vpOk (xs : List Nd) (deep mode size : Int) : Bool := packB xs mode size && Shr.glsOk (vpS xs deep).gs && (Shr.fitsB (vpTo xs deep mode size) && Shr.fitsB (vpS xs deep).w) && fitsB (vpS xs deep).h && fitsB (vpS xs deep).d && (vpL xs deep mode size).all Shr.fitsB
def vpN (xs : List Nd) (deep mode size : Int) : List Nd := boxN 7 (vpS xs deep).h (vpTo xs deep mode size) (vpS xs deep).d xs.length :: setL (gluesAt xs (begins xs)) (vpL xs deep mode size) xs
theorem vpS_n (xs : List Nd) (deep : Int) : (vpS xs deep).gs.length = (gluesAt xs (begins xs)).length := by rw [vpS_gs, hpS_n]
end Go.Proofs.Ytbbehmcekbnkiaa
