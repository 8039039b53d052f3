/-
  The specification's group, as a walk.
-/
import Derived.Test.YtbceblgnjicdcaaTakB
namespace Go.Proofs.Ytbceblgnjicdcaa
open Go.RowKit
set_option linter.unusedVariables false
set_option linter.unusedSimpArgs false

/-- All up to what closes o groups, and what is left behind it. -/
def grpGo : Nat → List Tk → Option (List Tk × List Tk)
  | _, [] => none
  | o, t :: r => if t.c = 1 then (grpGo (o + 1) r).map (fun p => (t :: p.1, p.2)) else if t.c = 2 then (if o = 1 then some ([], r) else (grpGo (o - 1) r).map (fun p => (t :: p.1, p.2))) else (grpGo o r).map (fun p => (t :: p.1, p.2))

/-- How much a state may go on yet. -/
def stM (w : World) (s : Nat) : Nat :=
  match w.cell? ⟨s, 1, none⟩, w.cell? ⟨s, 3, none⟩ with
  | some (.slice _ n _), some (.int _ c) => 2 * n + (if c = 0 then 1 else 0)
  | _, _ => 0
theorem St.m {w : World} {s : Nat} {rest : List Tk} {code : Int} (h : St w s rest code) : stM w s = 2 * rest.length + (if code = 0 then 1 else 0) := by
  obtain ⟨ib, cap, hib, hh, ht⟩ := h
  obtain ⟨g1, g3, _⟩ := StH.cells hh
  unfold stM
  rw [g1, g3]
theorem St.lt {w : World} {s : Nat} {rest : List Tk} {code : Int} (h : St w s rest code) : s < w.heap.size := by
  obtain ⟨ib, cap, hib, hh, ht⟩ := h
  exact (StH.cells hh).2.2.2.2.2
theorem St.cell {w : World} {s : Nat} {rest : List Tk} {code : Int} (h : St w s rest code) : w.cell? ⟨s, 3, none⟩ = some (.int .i64 code) := by
  obtain ⟨ib, cap, hib, hh, ht⟩ := h
  exact (StH.cells hh).2.1
theorem own_fr {lo n s : Nat} {w w' : World} {v : Value} {xs : List Value} (h : w.ownsRow lo 31 3 v n xs) (hf : Fr s w w') (hs : s < lo) : w'.ownsRow lo 31 3 v n xs := by
  obtain ⟨hl, h | ⟨g, cap, cur, rfl, hg, hb, hr⟩⟩ := h
  · exact ⟨hl, .inl h⟩
  · exact ⟨hl, .inr ⟨g, cap, cur, rfl, hg, (hf.2.block g (by omega) (Array.getElem?_eq_some_iff.1 hb).1).trans hb, hr⟩⟩
theorem l4Err_st {w : World} {s : Nat} {rest : List Tk} {code : Int} (h : St w s rest code) (c : Int) :
    Calls Try.prog 105 #[ptr s, .int .i64 c] w fun e w' => e = .returned (.tuple #[]) ∧ St w' s rest (if code = 0 then c else code) ∧ Fr s w w' := by
  obtain ⟨ib, cap, hib, hh, ht⟩ := h
  refine (l4Err_any hh c).mono ?_
  rintro e w' ⟨rfl, h1, h2⟩
  exact ⟨rfl, ⟨ib, cap, hib, h1, TOn.fr ht hib h2⟩, h2⟩

def GrpR (w : World) (s : Nat) (rest xs : List Tk) : Prop :=
  (∃ r, grpGo 1 rest = some (xs, r) ∧ St w s r 0) ∨ (grpGo 1 rest = none ∧ St w s [] 1)

theorem Fr.more {s : Nat} {w w2 w3 : World} (h : Fr s w w2) (hb : Below w.heap.size w2 w3) (hs : s < w.heap.size) : Fr s w w3 :=
  ⟨h.1.trans (hb.mono (Nat.le_of_lt hs)), Nat.le_trans h.2.size hb.size, fun k h1 h2 => (hb.block k h2).trans (h.2.block k h1 h2)⟩
theorem grpGo_open {k : Nat} {t : Tk} {r : List Tk} (h : t.c = 1) : grpGo k (t :: r) = (grpGo (k + 1) r).map (fun p => (t :: p.1, p.2)) := by rw [grpGo, if_pos h]
theorem grpGo_end {t : Tk} {r : List Tk} (h : t.c = 2) : grpGo 1 (t :: r) = some ([], r) := by rw [grpGo, if_neg (by omega), if_pos h, if_pos rfl]
theorem grpGo_close {k : Nat} {t : Tk} {r : List Tk} (h : t.c = 2) (hk : k ≠ 1) : grpGo k (t :: r) = (grpGo (k - 1) r).map (fun p => (t :: p.1, p.2)) := by rw [grpGo, if_neg (by omega), if_pos h, if_neg hk]
theorem grpGo_else {k : Nat} {t : Tk} {r : List Tk} (h : t.c ≠ 1) (h2 : t.c ≠ 2) : grpGo k (t :: r) = (grpGo k r).map (fun p => (t :: p.1, p.2)) := by rw [grpGo, if_neg h, if_neg h2]
theorem map_app {xs : List Tk} {t : Tk} (o : Option (List Tk × List Tk)) : (o.map (fun p => (t :: p.1, p.2))).map (fun p => (xs ++ p.1, p.2)) = o.map (fun p => ((xs ++ [t]) ++ p.1, p.2)) := by
  cases o with
  | none => rfl
  | some p => simp

def GInv (w : World) (s : Nat) (rest : List Tk) (o op : Value) (wr : World) : Prop :=
  ∃ (xs r : List Tk) (c : Int) (k n : Nat), op = .int .i64 k ∧ wr.ownsRow w.heap.size 31 3 o n (flat xs) ∧ o ≠ .slice none 0 0 ∧ St wr s r c ∧ Fr s w wr ∧ xs.length ≤ 20001 ∧ k ≤ 30000 ∧
    ((c = 0 ∧ 1 ≤ k ∧ k ≤ xs.length + 1 ∧ rest.length = xs.length + r.length ∧ grpGo 1 rest = (grpGo k r).map (fun p => (xs ++ p.1, p.2))) ∨ (c = 1 ∧ r = [] ∧ grpGo 1 rest = none))

set_option maxRecDepth 100000 in
set_option maxHeartbeats 4000000 in
theorem l4Group_any {w : World} {s : Nat} {rest : List Tk} (h : St w s rest 0) (hl : rest.length ≤ 20000) :
    Calls Try.prog 132 #[ptr s] w fun e w' => ∃ v n xs, e = .returned v ∧ w'.ownsRow w.heap.size 31 3 v n (flat xs) ∧ v ≠ .slice none 0 0 ∧ GrpR w' s rest xs ∧ Fr s w w' := by
  obtain ⟨i0, hi, hz0, hz1, hz2⟩ := info_parts Try.info31
  have hsz := St.lt h
  have H : Hid (St w s rest 0) := h
  clear h
  go_enter Try.func132, Try.ntmps132
  go_wp2_with fail
  go_loopw [3, 4] (fun o op wr => Hid (GInv w s rest o op wr)) (fun _ _ wr => stM wr s)
  case atStart =>
    refine ⟨[], rest, 0, 1, 0, rfl, World.ownsRow_made w #[] 0 (Nat.le_refl _) (Nat.zero_le _) (by simp), by simp, St.fr H (below1 _ _), Fr.below (below1 _ _) (by omega), by simp, by omega, .inl ⟨rfl, by omega, by simp, by simp, ?_⟩⟩
    cases grpGo 1 rest with
    | none => rfl
    | some p => rfl
  case round =>
    obtain ⟨xs, r, c, k, nf, rfl, hown, hne, hst, hfr, hxl, hkl, hcase⟩ := hrel
    obtain ⟨ao, ocap, rfl, hsh⟩ := own_shape hown
    have hnf : nf = xs.length := by have := hown.1; rw [flat_len] at this; omega
    rw [← hnf] at hxl
    have HNF : Hid (nf = xs.length) := hnf
    have HOWN : Hid (wr.ownsRow w.heap.size 31 3 (.slice ao nf ocap) nf (flat xs)) := hown
    have HST : Hid (St wr s r c) := hst
    have HFR : Hid (Fr s w wr) := hfr
    have HNE : Hid (Value.slice ao nf ocap ≠ .slice none 0 0) := hne
    have hc3 := St.cell hst
    have hsr : s < wr.heap.size := St.lt hst
    have hwz : w.heap.size ≤ wr.heap.size := hfr.size
    clear hown hst hfr hne hsh
    rcases hcase with ⟨rfl, hk1, hk2, hlen, hg⟩ | ⟨rfl, rfl, hg⟩
    · rw [← hnf] at hk2 hlen
      have HG : Hid (grpGo 1 rest = (grpGo k r).map (fun p => (xs ++ p.1, p.2))) := hg
      clear hg hnf
      have hrc : r = [] ∨ ∃ t r', r = t :: r' := by
        cases r with
        | nil => exact .inl rfl
        | cons t r' => exact .inr ⟨t, r', rfl⟩
      rcases hrc with rfl | ⟨t, r', rfl⟩
      · have HGN : Hid (grpGo 1 rest = none) := by rw [show grpGo 1 rest = _ from HG]; rfl
        go_wp2_with fail
        refine (l4Take_any HST (by simp only [List.length_cons, List.length_nil]; omega)).mono ?_
        rintro e w2 ⟨rfl, hs2, hf2⟩
        have O2 : Hid (w2.ownsRow w.heap.size 31 3 (.slice ao nf ocap) nf (flat xs)) := own_fr HOWN hf2 hsz
        have F2 : Hid (Fr s w w2) := HFR.trans hf2
        have z2 : w.heap.size ≤ w2.heap.size := F2.size
        have S2 : Hid (St w2 s [] 1) := hs2
        clear hs2 hf2
        rw [show (tkT [] 0).v = tokV 0 0 ByteArray.empty from rfl]
        by_cases hb : nf < 20000
        · have hbi : ¬ (20000 : Int) ≤ (nf : Int) := by omega
          go_wp2_with (at_builtin; refine wpList_append_own _ rfl _ _ 32 rfl w.heap.size 31 i0 _ 3 32 Try.underlying32 hi hz0 hz1 hz2 rfl (by decide) _ _ _ rfl (World.ownsRow.alloc (World.ownsRow.alloc O2 _) _) ⟨w2.heap.size + 1, 0, none⟩ 1 1 (flat [⟨0, 0, ByteArray.empty⟩]) rfl ?d1 ?d2 ?d3 ?d4 ?d5 ?d6 ?_)
          case d1 => rfl
          case d2 =>
            intro j u hj
            match j, hj with
            | 0, hj => simp [flat] at hj; subst hj; simp [Addr.add]
            | 1, hj => simp [flat] at hj; subst hj; simp [Addr.add]
            | 2, hj => simp [flat] at hj; subst hj; simp [Addr.add]
            | j + 3, hj => simp [flat] at hj
          case d3 => exact flat_one _
          case d4 => unfold maxLen; omega
          case d5 => omega
          case d6 => simp; omega
          intro v' w4 hown' hgrow hnil'
          have hB4 : Below w.heap.size w2 w4 := Below.grown (((Below.refl _ _).alloc (by omega) _).alloc (by simp; omega) _) hgrow (by simp; omega) (fun r hr => (World.ownsRow.lt O2 r hr).1)
          rw [← flat_app] at hown'
          obtain ⟨ao2, ocap2, rfl, _⟩ := own_shape hown'
          have R4 : Hid (w4.ownsRow w.heap.size 31 3 (.slice ao2 (nf + 1) ocap2) (nf + 1) (flat (xs ++ [(⟨0, 0, ByteArray.empty⟩ : Tk)])) ∧ Value.slice ao2 (nf + 1) ocap2 ≠ .slice none 0 0 ∧ St w4 s [] 1 ∧ Fr s w w4) := ⟨hown', fun h => hnil' h, St.bel S2 (hB4.mono hsz), Fr.more F2 hB4 hsz⟩
          clear hown' hgrow hnil' hB4
          go_wp2
          go_roundw
          case rel => exact ⟨xs ++ [(⟨0, 0, ByteArray.empty⟩ : Tk)], [], 1, k, nf + 1, by go_num, R4.1, R4.2.1, R4.2.2.1, R4.2.2.2, by rw [List.length_append, ← show nf = xs.length from HNF]; simp; omega, by omega, .inr ⟨rfl, rfl, HGN⟩⟩
          case measure => rw [St.m R4.2.2.1, St.m HST]; simp
        · have hbi : (20000 : Int) ≤ (nf : Int) := by omega
          go_wp2_with fail
          refine (l4Err_st (St.fr S2 (below1 _ _)) 8).mono ?_
          rintro e w3 ⟨rfl, hs3, hf3⟩
          have S3 : Hid (St w3 s [] 1) := hs3
          have O3 : Hid (w3.ownsRow w.heap.size 31 3 (.slice ao nf ocap) nf (flat xs)) := own_fr (World.ownsRow.alloc O2 _) hf3 hsz
          have F3 : Hid (Fr s w w3) := (F2.trans (Fr.below (below1 _ _) (by omega))).trans hf3
          have z3 : w2.heap.size < w3.heap.size := by have := hf3.size; simp at this; omega
          have q3 : w3.heap[w2.heap.size]? = some (.cells #[.int .i64 0, .int .i64 0, .string ByteArray.empty] 31) := by rw [hf3.2.block _ (by omega) (by simp)]; exact Array.getElem?_push_size
          have c0 : w3.cell? ⟨w2.heap.size, 0, none⟩ = some (.int .i64 0) := by rw [cell_of_row w3 _ _ _ 31 _ q3]; rfl
          have c1 : w3.cell? ⟨w2.heap.size, 1, none⟩ = some (.int .i64 0) := by rw [cell_of_row w3 _ _ _ 31 _ q3]; rfl
          have c2 : w3.cell? ⟨w2.heap.size, 2, none⟩ = some (.string ByteArray.empty) := by rw [cell_of_row w3 _ _ _ 31 _ q3]; rfl
          have z4 : w.heap.size ≤ w3.heap.size := by omega
          clear hs3 hf3 q3
          go_wp2_with (at_builtin; refine wpList_append_own _ rfl _ _ 32 rfl w.heap.size 31 i0 _ 3 32 Try.underlying32 hi hz0 hz1 hz2 rfl (by decide) _ _ _ rfl (World.ownsRow.alloc O3 _) ⟨w3.heap.size, 0, none⟩ 1 1 (flat [⟨0, 0, ByteArray.empty⟩]) rfl ?d1 ?d2 ?d3 ?d4 ?d5 ?d6 ?_)
          case d1 => rfl
          case d2 =>
            intro j u hj
            match j, hj with
            | 0, hj => simp [flat] at hj; subst hj; simp [Addr.add]
            | 1, hj => simp [flat] at hj; subst hj; simp [Addr.add]
            | 2, hj => simp [flat] at hj; subst hj; simp [Addr.add]
            | j + 3, hj => simp [flat] at hj
          case d3 => exact flat_one _
          case d4 => unfold maxLen; omega
          case d5 => omega
          case d6 => simp; omega
          intro v' w4 hown' hgrow hnil'
          have hB4 : Below w.heap.size w3 w4 := Below.grown ((Below.refl _ _).alloc (by omega) _) hgrow (by simp; omega) (fun r hr => (World.ownsRow.lt O3 r hr).1)
          rw [← flat_app] at hown'
          obtain ⟨ao2, ocap2, rfl, _⟩ := own_shape hown'
          have R4 : Hid (w4.ownsRow w.heap.size 31 3 (.slice ao2 (nf + 1) ocap2) (nf + 1) (flat (xs ++ [(⟨0, 0, ByteArray.empty⟩ : Tk)])) ∧ Value.slice ao2 (nf + 1) ocap2 ≠ .slice none 0 0 ∧ St w4 s [] 1 ∧ Fr s w w4) := ⟨hown', fun h => hnil' h, St.bel S3 (hB4.mono hsz), Fr.more F3 hB4 hsz⟩
          clear hown' hgrow hnil' hB4
          go_wp2
          go_roundw
          case rel => exact ⟨xs ++ [(⟨0, 0, ByteArray.empty⟩ : Tk)], [], 1, k, nf + 1, by go_num, R4.1, R4.2.1, R4.2.2.1, R4.2.2.2, by rw [List.length_append, ← show nf = xs.length from HNF]; simp; omega, by omega, .inr ⟨rfl, rfl, HGN⟩⟩
          case measure => rw [St.m R4.2.2.1, St.m HST]; simp
      · simp only [List.length_cons] at hlen
        have hbi : ¬ (20000 : Int) ≤ (nf : Int) := by omega
        go_wp2_with fail
        refine (l4Take_any HST (by simp only [List.length_cons, List.length_nil]; omega)).mono ?_
        rintro e w2 ⟨rfl, hs2, hf2⟩
        have O2 : Hid (w2.ownsRow w.heap.size 31 3 (.slice ao nf ocap) nf (flat xs)) := own_fr HOWN hf2 hsz
        have F2 : Hid (Fr s w w2) := HFR.trans hf2
        have z2 : w.heap.size ≤ w2.heap.size := F2.size
        have h3 : tkC (t :: r') 0 = 0 := by simp [tkC]
        rw [h3] at hs2
        have S2 : Hid (St w2 s r' 0) := hs2
        clear h3
        clear hs2 hf2
        obtain ⟨tc, th, ts⟩ := t
        rw [show (tkT (⟨tc, th, ts⟩ :: r') 0).v = tokV tc th ts from rfl]
        by_cases h1 : tc = 1
        · have HG2 : Hid (grpGo 1 rest = (grpGo (k + 1) r').map (fun p => ((xs ++ [⟨tc, th, ts⟩]) ++ p.1, p.2))) := by show _ = _; rw [show grpGo 1 rest = _ from HG, grpGo_open h1, map_app]
          subst h1
          go_wp2_with (at_builtin; refine wpList_append_own _ rfl _ _ 32 rfl w.heap.size 31 i0 _ 3 32 Try.underlying32 hi hz0 hz1 hz2 rfl (by decide) _ _ _ rfl (World.ownsRow.alloc (World.ownsRow.alloc O2 _) _) ⟨w2.heap.size + 1, 0, none⟩ 1 1 (flat [⟨1, th, ts⟩]) rfl ?d1 ?d2 ?d3 ?d4 ?d5 ?d6 ?_)
          case d1 => rfl
          case d2 =>
            intro j u hj
            match j, hj with
            | 0, hj => simp [flat] at hj; subst hj; simp [Addr.add]
            | 1, hj => simp [flat] at hj; subst hj; simp [Addr.add]
            | 2, hj => simp [flat] at hj; subst hj; simp [Addr.add]
            | j + 3, hj => simp [flat] at hj
          case d3 => exact flat_one _
          case d4 => unfold maxLen; omega
          case d5 => omega
          case d6 => simp; omega
          intro v' w4 hown' hgrow hnil'
          have hB4 : Below w.heap.size w2 w4 := Below.grown (((Below.refl _ _).alloc (by omega) _).alloc (by simp; omega) _) hgrow (by simp; omega) (fun r hr => (World.ownsRow.lt O2 r hr).1)
          rw [← flat_app] at hown'
          obtain ⟨ao2, ocap2, rfl, _⟩ := own_shape hown'
          have R4 : Hid (w4.ownsRow w.heap.size 31 3 (.slice ao2 (nf + 1) ocap2) (nf + 1) (flat (xs ++ [(⟨1, th, ts⟩ : Tk)])) ∧ Value.slice ao2 (nf + 1) ocap2 ≠ .slice none 0 0 ∧ St w4 s r' 0 ∧ Fr s w w4) := ⟨hown', fun h => hnil' h, St.bel S2 (hB4.mono hsz), Fr.more F2 hB4 hsz⟩
          clear hown' hgrow hnil' hB4
          go_wp2
          go_roundw
          case rel => exact ⟨xs ++ [(⟨1, th, ts⟩ : Tk)], r', 0, k + 1, nf + 1, by go_num, R4.1, R4.2.1, R4.2.2.1, R4.2.2.2, by rw [List.length_append, ← show nf = xs.length from HNF]; simp; omega, by omega, .inl ⟨rfl, by omega, by rw [List.length_append, ← show nf = xs.length from HNF]; simp; omega, by rw [List.length_append, ← show nf = xs.length from HNF]; simp; omega, HG2⟩⟩
          case measure => rw [St.m R4.2.2.1, St.m HST]; simp
        · by_cases h2 : tc = 2
          · by_cases hk : k = 1
            · subst hk
              have HG2 : Hid (grpGo 1 rest = some (xs, r')) := by show _ = _; rw [show grpGo 1 rest = _ from HG, grpGo_end h2]; simp
              subst h2
              have B2 : Below w.heap.size w2 (w2.alloc (.cells #[.int .i64 2, .int .i64 th, .string ts] 31)) := (Below.refl _ _).alloc (by omega) _
              have R4 : Hid (∀ W, Below w.heap.size w2 W → St W s r' 0 ∧ Fr s w W) := fun W hW => ⟨St.bel S2 (hW.mono hsz), Fr.more F2 hW hsz⟩
              clear B2
              go_wp2
              go_ret
              refine ⟨_, nf, xs, rfl, World.ownsRow.alloc O2 _, HNE, .inl ⟨r', HG2, (R4 _ ?_).1⟩, (R4 _ ?_).2⟩ <;> exact (Below.refl _ _).alloc (by omega) _
            · obtain ⟨k', rfl⟩ : ∃ k', k = k' + 1 := ⟨k - 1, by omega⟩
              have HG2 : Hid (grpGo 1 rest = (grpGo k' r').map (fun p => ((xs ++ [⟨tc, th, ts⟩]) ++ p.1, p.2))) := by show _ = _; rw [show grpGo 1 rest = _ from HG, grpGo_close h2 hk, map_app]; rfl
              subst h2
              have hx1 : (k' : Int) + 1 - 1 = (k' : Int) := by omega
              have hx2 : ¬ (k' : Int) = 0 := by omega
              have hx3 : ((k' : Int) == 0) = false := beq_eq_false_iff_ne.2 hx2
              go_wp2_with (at_builtin; refine wpList_append_own _ rfl _ _ 32 rfl w.heap.size 31 i0 _ 3 32 Try.underlying32 hi hz0 hz1 hz2 rfl (by decide) _ _ _ rfl (World.ownsRow.alloc (World.ownsRow.alloc O2 _) _) ⟨w2.heap.size + 1, 0, none⟩ 1 1 (flat [⟨2, th, ts⟩]) rfl ?d1 ?d2 ?d3 ?d4 ?d5 ?d6 ?_)
              case d1 => rfl
              case d2 =>
                intro j u hj
                match j, hj with
                | 0, hj => simp [flat] at hj; subst hj; simp [Addr.add]
                | 1, hj => simp [flat] at hj; subst hj; simp [Addr.add]
                | 2, hj => simp [flat] at hj; subst hj; simp [Addr.add]
                | j + 3, hj => simp [flat] at hj
              case d3 => exact flat_one _
              case d4 => unfold maxLen; omega
              case d5 => omega
              case d6 => simp; omega
              intro v' w4 hown' hgrow hnil'
              have hB4 : Below w.heap.size w2 w4 := Below.grown (((Below.refl _ _).alloc (by omega) _).alloc (by simp; omega) _) hgrow (by simp; omega) (fun r hr => (World.ownsRow.lt O2 r hr).1)
              rw [← flat_app] at hown'
              obtain ⟨ao2, ocap2, rfl, _⟩ := own_shape hown'
              have R4 : Hid (w4.ownsRow w.heap.size 31 3 (.slice ao2 (nf + 1) ocap2) (nf + 1) (flat (xs ++ [(⟨2, th, ts⟩ : Tk)])) ∧ Value.slice ao2 (nf + 1) ocap2 ≠ .slice none 0 0 ∧ St w4 s r' 0 ∧ Fr s w w4) := ⟨hown', fun h => hnil' h, St.bel S2 (hB4.mono hsz), Fr.more F2 hB4 hsz⟩
              clear hown' hgrow hnil' hB4
              go_wp2
              go_roundw
              case rel => exact ⟨xs ++ [(⟨2, th, ts⟩ : Tk)], r', 0, k', nf + 1, by go_num, R4.1, R4.2.1, R4.2.2.1, R4.2.2.2, by rw [List.length_append, ← show nf = xs.length from HNF]; simp; omega, by omega, .inl ⟨rfl, by omega, by rw [List.length_append, ← show nf = xs.length from HNF]; simp; omega, by rw [List.length_append, ← show nf = xs.length from HNF]; simp; omega, HG2⟩⟩
              case measure => rw [St.m R4.2.2.1, St.m HST]; simp
          · have HG2 : Hid (grpGo 1 rest = (grpGo k r').map (fun p => ((xs ++ [⟨tc, th, ts⟩]) ++ p.1, p.2))) := by show _ = _; rw [show grpGo 1 rest = _ from HG, grpGo_else h1 h2, map_app]
            have e1 : (tc == 1) = false := beq_eq_false_iff_ne.2 h1
            have e2 : (tc == 2) = false := beq_eq_false_iff_ne.2 h2
            go_wp2_with (at_builtin; refine wpList_append_own _ rfl _ _ 32 rfl w.heap.size 31 i0 _ 3 32 Try.underlying32 hi hz0 hz1 hz2 rfl (by decide) _ _ _ rfl (World.ownsRow.alloc (World.ownsRow.alloc O2 _) _) ⟨w2.heap.size + 1, 0, none⟩ 1 1 (flat [⟨tc, th, ts⟩]) rfl ?d1 ?d2 ?d3 ?d4 ?d5 ?d6 ?_)
            case d1 => rfl
            case d2 =>
              intro j u hj
              match j, hj with
              | 0, hj => simp [flat] at hj; subst hj; simp [Addr.add]
              | 1, hj => simp [flat] at hj; subst hj; simp [Addr.add]
              | 2, hj => simp [flat] at hj; subst hj; simp [Addr.add]
              | j + 3, hj => simp [flat] at hj
            case d3 => exact flat_one _
            case d4 => unfold maxLen; omega
            case d5 => omega
            case d6 => simp; omega
            intro v' w4 hown' hgrow hnil'
            have hB4 : Below w.heap.size w2 w4 := Below.grown (((Below.refl _ _).alloc (by omega) _).alloc (by simp; omega) _) hgrow (by simp; omega) (fun r hr => (World.ownsRow.lt O2 r hr).1)
            rw [← flat_app] at hown'
            obtain ⟨ao2, ocap2, rfl, _⟩ := own_shape hown'
            have R4 : Hid (w4.ownsRow w.heap.size 31 3 (.slice ao2 (nf + 1) ocap2) (nf + 1) (flat (xs ++ [(⟨tc, th, ts⟩ : Tk)])) ∧ Value.slice ao2 (nf + 1) ocap2 ≠ .slice none 0 0 ∧ St w4 s r' 0 ∧ Fr s w w4) := ⟨hown', fun h => hnil' h, St.bel S2 (hB4.mono hsz), Fr.more F2 hB4 hsz⟩
            clear hown' hgrow hnil' hB4
            go_wp2
            go_roundw
            case rel => exact ⟨xs ++ [(⟨tc, th, ts⟩ : Tk)], r', 0, k, nf + 1, by go_num, R4.1, R4.2.1, R4.2.2.1, R4.2.2.2, by rw [List.length_append, ← show nf = xs.length from HNF]; simp; omega, by omega, .inl ⟨rfl, by omega, by rw [List.length_append, ← show nf = xs.length from HNF]; simp; omega, by rw [List.length_append, ← show nf = xs.length from HNF]; simp; omega, HG2⟩⟩
            case measure => rw [St.m R4.2.2.1, St.m HST]; simp

    · have HGN : Hid (grpGo 1 rest = none) := hg
      clear hg
      go_wp2
      go_ret
      exact ⟨_, nf, xs, rfl, HOWN, HNE, .inr ⟨HGN, HST⟩, HFR⟩
end Go.Proofs.Ytbceblgnjicdcaa
