import Derived.Test.YtlohbaoigfaneaaGreatSln
import Derived.Test.YtlohbaoigfaneaaGreatLtm
import Derived.Test.YtlohbaoigfaneaaGreatSme
import Derived.Test.YtlohbaoigfaneaaGreatHlp
namespace Go.Proofs.YtlohbaoigfaneaaGreat
open Go.RowKit
set_option linter.unusedVariables false
set_option linter.unusedSimpArgs false
theorem mea_nine (zs : List Int) (h : zs.length = 9) : ∃ z0 z1 z2 z3 z4 z5 z6 z7 z8, zs = [z0, z1, z2, z3, z4, z5, z6, z7, z8] := by
 match zs, h with
 | [a, b, c, d, e, f, g, i, j], _ => exact ⟨_, _, _, _, _, _, _, _, _, rfl⟩
theorem IntsL.far {w : World} {B C T : Nat} {zs : List Int} (hne : B ≠ C) (h : IntsL w B T zs) (o : Nat) (v : Value) : IntsL (w.setCell ⟨C, o, none⟩ v) B T zs := (Below.heap_setCell _ _ _ _ (show B ≠ C from hne)).trans h
theorem glA_len (o pn mn : Nat) (s p q : Int) (zs : List Int) : (glA o pn mn s p q zs).length = zs.length := by simp [glA]
theorem wrap_in {z : Int} (h1 : -9223372036854775808 ≤ z) (h2 : z ≤ 9223372036854775807) : wrap64 z = z := by unfold wrap64; omega
theorem getD_set (l : List Int) (i j : Nat) (v : Int) (hi : i < l.length) : (l.set i v).getD j 0 = if j = i then v else l.getD j 0 := by
 simp only [List.getD_eq_getElem?_getD, List.getElem?_set]
 by_cases h : i = j
 ·subst h; simp [hi]
 ·rw [if_neg h, if_neg (fun e => h e.symm)]
def gxv (s p po m mo : Int) (j : Nat) : Int := (if j = 0 then s else 0) + (if j = 1 + po.toNat then p else 0) + (if j = 5 + mo.toNat then m else 0)
def fitI (x : Int) : Prop := -1073741823 ≤ x ∧ x ≤ 1073741823
structure VIn (x : Nd) : Prop where
 wd : fitI x.wd
 gs : fitI x.gs
 gp : fitI x.gp
 gm : fitI x.gm
 o : Ord x
theorem gxv_in {s p po m mo : Int} (hs : fitI s) (hp : fitI p) (hm : fitI m) (h1 : 0 ≤ po ∧ po ≤ 3) (h2 : 0 ≤ mo ∧ mo ≤ 3) (j : Nat) : fitI (gxv s p po m mo j) := by
 unfold gxv fitI at *
 by_cases a : j = 0
 ·subst a
  rw [if_pos rfl, if_neg (by omega), if_neg (by omega)]; omega
 ·rw [if_neg a]
  by_cases b : j = 1 + po.toNat
  ·rw [if_pos b, if_neg (by omega)]; omega
  ·rw [if_neg b]
   split <;> omega
def Big (B : Int) (zs : List Int) : Prop := ∀ j, -B ≤ zs.getD j 0 ∧ zs.getD j 0 ≤ B
theorem glA_get {zs : List Int} {s p po m mo B : Int} (hl : zs.length = 9) (hs : fitI s) (hp : fitI p) (hm : fitI m) (h1 : 0 ≤ po ∧ po ≤ 3) (h2 : 0 ≤ mo ∧ mo ≤ 3) (hB : Big B zs) (hB2 : B ≤ 1000000000000000) (j : Nat) :
 (glA 0 po.toNat mo.toNat s p m zs).getD j 0 = zs.getD j 0 + gxv s p po m mo j := by
 unfold glA gxv
 have q0 := hB 0
 have q1 := hB (0 + 1 + po.toNat)
 have q2 := hB (0 + 5 + mo.toNat)
 unfold fitI at hs hp hm
 rw [getD_set _ _ _ _ (by simp [hl]; omega), getD_set _ _ _ _ (by simp [hl]; omega), getD_set _ _ _ _ (by omega)]
 rw [wrap_in (by omega) (by omega), wrap_in (by omega) (by omega), wrap_in (by omega) (by omega)]
 by_cases a : j = 0
 ·subst a
  rw [if_neg (by omega), if_neg (by omega), if_pos rfl, if_pos rfl, if_neg (by omega), if_neg (by omega)]; omega
 ·by_cases b : j = 0 + 1 + po.toNat
  ·subst b
   rw [if_neg (by omega), if_pos rfl, if_neg (by omega), if_pos (by omega), if_neg (by omega)]; omega
  ·by_cases c : j = 0 + 5 + mo.toNat
   ·subst c
    rw [if_pos rfl, if_neg (by omega), if_neg (by omega), if_pos (by omega)]; omega
   ·rw [if_neg c, if_neg b, if_neg a, if_neg a, if_neg (by omega), if_neg (by omega)]; omega
theorem glB_parts {s p po m mo : Int} (h : glB s p po m mo = true) : fitI s ∧ fitI p ∧ fitI m ∧ (0 ≤ po ∧ po ≤ 3) ∧ (0 ≤ mo ∧ mo ≤ 3) := by
 unfold glB fitsB uptoB at h
 simp only [Bool.and_eq_true, decide_eq_true_eq] at h
 unfold fitI
 omega
def bgs (xs : List Nd) : List Nat := starts xs (xs.length + 1) 0
def okL (a : List Nd) : Prop := okFrom a.length 0 [] a = true
theorem okL_of {a : List Nd} (h : listB a = true) : okL a := (listB_iff.1 h).2
theorem okL_app {a b : List Nd} (ha : okL a) (hb : okL b) : okL (a ++ b) := by
 unfold okL at *
 have h2 := ok_shift (b.length : Int) (a.length : Int) b 0 []
 rw [List.map_nil, Int.zero_add] at h2
 refine ok_app (L := ((a ++ b).length : Int)) (len := (a.length : Int)) b (by rw [List.length_append]; omega) ?_ a 0 [] (by omega) (fun y hy => by simp at hy) List.Pairwise.nil (fun y hy => by simp at hy) ha
 rw [show (((a ++ b).length : Nat) : Int) = (b.length : Int) + (a.length : Int) by rw [List.length_append]; push_cast; omega, h2]
 exact hb
theorem bgs_app {a b : List Nd} (ha : okL a) : bgs (a ++ b) = bgs a ++ (bgs b).map (· + a.length) :=
 starts_app (a := a) (b := b) ((a ++ b).length + 1) 0 (Nat.zero_le _) (by rw [List.drop_zero]; exact ha) (by rw [List.length_append]; omega)
theorem bgs_lt {a : List Nd} {p : Nat} (h : p ∈ bgs a) : p < a.length := starts_lt a _ _ p h
theorem getL {a b : List Nd} {p : Nat} (h : p < a.length) : (a ++ b).getD p Nd.none = a.getD p Nd.none := by
 rw [List.getD_eq_getElem?_getD, List.getElem?_append_left h, ← List.getD_eq_getElem?_getD]
theorem getR {a b : List Nd} (p : Nat) : (a ++ b).getD (p + a.length) Nd.none = b.getD p Nd.none := by
 rw [List.getD_eq_getElem?_getD, List.getElem?_append_right (by omega), Nat.add_sub_cancel, ← List.getD_eq_getElem?_getD]
theorem good_in {x : Nd} (h : goodB x = true) : NdIn x := by
 unfold goodB specB at h
 simp only [Bool.and_eq_true] at h
 obtain ⟨⟨⟨⟨⟨⟨h1, h2⟩, ⟨⟨⟨⟨h3, h4⟩, h5⟩, h6⟩, h7⟩⟩, h8⟩, h9⟩, h10⟩, h11⟩ := h
 exact ⟨of_decide_eq_true h3, of_decide_eq_true h4, of_decide_eq_true h5, of_decide_eq_true h6, h7⟩
theorem good_vin {x : Nd} (h : goodB x = true) : VIn x := by
 unfold goodB specB at h
 simp only [Bool.and_eq_true] at h
 obtain ⟨⟨⟨⟨⟨⟨h1, h2⟩, ⟨⟨⟨⟨h3, h4⟩, h5⟩, h6⟩, h7⟩⟩, h8⟩, h9⟩, h10⟩, h11⟩ := h
 obtain ⟨q1, q2, q3, q4, q5⟩ := glB_parts h7
 have hw : fitI x.wd := by simpa [fitsB, fitI] using h3
 exact ⟨hw, q1, q2, q3, q4.1, q4.2, q5.1, q5.2⟩
theorem getD_mem {α : Type} {l : List α} {d : α} {k : Nat} (hk : k < l.length) : l.getD k d ∈ l := by
 rw [List.getD_eq_getElem?_getD, List.getElem?_eq_getElem hk]
 exact List.getElem_mem _
theorem okL_good {a : List Nd} (h : okL a) : ∀ x ∈ a, goodB x = true := fun x hx => (ok_all a 0 [] (by omega) (by simp) h x hx).1
structure AllOk9 (xs : List Nd) : Prop where
 len : xs.length ≤ 20010
 kids : ∀ i, i < xs.length → 0 ≤ (xs.getD i Nd.none).kids ∧ (i : Int) + 1 + (xs.getD i Nd.none).kids ≤ xs.length
 text : ∀ i, i < xs.length → (xs.getD i Nd.none).tx.size ≤ 1000
theorem AllOk9.weak {xs : List Nd} (h : AllOk9 xs) : ∀ i, i < xs.length → 0 ≤ (xs.getD i Nd.none).kids ∧ (xs.getD i Nd.none).kids ≤ 20010 := fun i hi => by
 have h1 := h.kids i hi
 have h2 := h.len
 omega
end Go.Proofs.YtlohbaoigfaneaaGreat
