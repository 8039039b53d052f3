import Derived.Test.YtbbehmcekbnkiaaGreatPpw
import Derived.Test.YtbbehmcekbnkiaaGreatSsn
import Derived.Test.YtbbehmcekbnkiaaGreatThb
import Derived.Test.YtbbehmcekbnkiaaGreatFng
namespace Go.Proofs.YtbbehmcekbnkiaaGreat
open Go.RowKit Go.Shelf
set_option linter.unusedVariables false
set_option linter.unusedSimpArgs false
def HdQ (B : Nat) (S : World) (a : Option Addr) (xs : List Nd) : Prop :=
 ∀ i, i < (begins xs).length → ∃ g gu L c, a = some ⟨g, 0, none⟩ ∧ B ≤ g ∧ B ≤ gu ∧ S.cell? ⟨g, i, none⟩ = some (.slice (some ⟨gu, 0, none⟩) (L + 1) c) ∧ L + 1 = ((itemsOf xs).getD i []).length ∧ ∀ j, j < 15 → S.cell? ⟨gu, j, none⟩ = (hdN xs i).cells[j]?
theorem HdQ.set {B g j : Nat} {S : World} {a : Option Addr} {xs : List Nd} {u : Value} (h : HdQ B S a xs) (hg : g < B) : HdQ B (S.setCell ⟨g, j, none⟩ u) a xs := by
 intro i hi
 obtain ⟨g1, gu, L, c, h1, h2, h3, h4, h5, h6⟩ := h i hi
 refine ⟨g1, gu, L, c, h1, h2, h3, ?_, h5, fun k hk => ?_⟩
 ·rw [World.cell?_setCell_other _ _ _ _ (by intro e; simp only [Addr.mk.injEq] at e; omega)]
  exact h4
 ·rw [World.cell?_setCell_other _ _ _ _ (by intro e; simp only [Addr.mk.injEq] at e; omega)]
  exact h6 k hk
theorem itemsH {w : World} {v : Value} {xs : List Nd} (hL : listB xs = true) (h : NRow 0 w v xs) (hs : xs.length ≤ 1048576) (hcp : ∀ a n c, v = .slice a n c → n ≤ c ∧ c ≤ 9223372036854775807) :
 Calls Tryz.prog 12 #[v] w fun e W' => (∃ a c, e = .returned (.slice a (begins xs).length c) ∧ HdQ w.heap.size W' a xs) ∧ Below w.heap.size w W' := by
 refine (callsIn_wide.1 (implItems_in h hs hcp)).mono ?_
 rintro e w' ⟨⟨u, vs, rfl, h1, h2⟩, hb⟩
 rw [items_len hL] at h1
 have hlen := own25_len h1
 obtain ⟨a, c, rfl, hg⟩ := own25_shape h1
 refine ⟨⟨a, c, rfl, fun i hi => ?_⟩, hb⟩
 obtain ⟨g, rfl, hg0, hgl⟩ := hg (by omega)
 have hvi : vs[i]? = some vs[i] := List.getElem?_eq_getElem (by omega)
 have hc := (own25_cell h1 hvi).1
 have ho := h2.own i _ hvi
 obtain ⟨t, ht⟩ := item_head hL hi
 have ht' : (itemsOf xs).getD i [] = hdN xs i :: t := ht
 have ho' : w'.ownsRow w.heap.size 36 15 vs[i] (t.length + 1) (flatN (hdN xs i :: t)) := by
  simp only [ht'] at ho
  exact ho
 obtain ⟨gu, c', hv⟩ := own_some ho' (by omega)
 rw [hv] at hc ho'
 exact ⟨g, gu, t.length, c', rfl, hg0, (own_lt ho' rfl).1, hc, by rw [ht']; rfl, (own_cells0 ho').1⟩
theorem ofN_lt {xs : List Nd} (h : listB xs = true) {i : Nat} (hi : i < (begins xs).length) : ofN xs i < xs.length := by
 rw [← ofN_begin h hi]
 refine starts_lt xs (xs.length + 1) 0 _ ?_
 simp [begins, List.getD, List.getElem?_eq_getElem (show i < (starts xs (xs.length + 1) 0).length from hi)]
theorem zer_glue {xs : List Nd} (h : listB xs = true) {i : Nat} (hi : i < (begins xs).length) (hk : (hdN xs i).k = 3) : flatN (zerN xs (i + 1)) = (flatN (zerN xs i)).set (ofN xs i * 15 + 1) (.int .i64 0) := by
 have hg : glueB ((zerN xs i).getD (ofN xs i) Nd.none) = true := by
  unfold hdN at hk
  rw [ofN_begin h hi] at hk
  unfold glueB
  rw [zerN_k, hk]
  rfl
 rw [zerN_succ hi, ofN_begin h hi]
 unfold Wk.zeroAt
 rw [if_pos hg, Wk.flatN_set _ _ (by rw [zerN_len]; exact ofN_lt h hi)]
theorem zer_other {xs : List Nd} (h : listB xs = true) {i : Nat} (hi : i < (begins xs).length) (hk : (hdN xs i).k ≠ 3) : zerN xs (i + 1) = zerN xs i := by
 have hg : glueB ((zerN xs i).getD (ofN xs i) Nd.none) = false := by
  unfold hdN at hk
  rw [ofN_begin h hi] at hk
  unfold glueB
  rw [zerN_k]
  simpa using hk
 rw [zerN_succ hi, ofN_begin h hi]
 unfold Wk.zeroAt
 rw [if_neg (by rw [hg]; simp)]
theorem zerN_0 (xs : List Nd) : zerN xs 0 = xs := by simp [zerN, Wk.zeroAll]
end Go.Proofs.YtbbehmcekbnkiaaGreat
namespace Go.Proofs.YtbbehmcekbnkiaaGreat
open Go.RowKit
set_option linter.unusedVariables false
set_option linter.unusedSimpArgs false
set_option maxRecDepth 20000 in
set_option maxHeartbeats 8000000 in
theorem sameNodes_any {v1 v2 : Value} {xs : List Nd} {w : World} (h1 : NRow 0 w v1 xs) (h2 : NRow 0 w v2 xs) (hs : xs.length ≤ 1048576) :
 Calls Tryz.prog 14 #[v1, v2] w fun e w' => e = .returned (.bool true) ∧ Below w.heap.size w w' := by
 obtain ⟨ao1, n1, cap1, rfl, hn1, hr1⟩ := h1
 obtain ⟨ao2, n2, cap2, rfl, hn2, hr2⟩ := h2
 obtain rfl : n1 = n2 := by omega
 have hx : n1 ≤ 1048576 := by rw [← hn1]; exact hs
 have HL : Hid (xs.length = n1) := hn1
 have HR1 : Hid (0 < n1 → ∃ b off, ao1 = some ⟨b, off, none⟩ ∧ 0 ≤ b ∧ b < w.heap.size ∧ ∀ i, i < n1 → ∃ cs : List Value, cs.length = 15 ∧ NdR 0 w cs (xs.getD i Nd.none) ∧ ∀ j, j < 15 → w.cell? ⟨b, off + i * 15 + j, none⟩ = cs[j]?) := hr1
 have HR2 : Hid (0 < n1 → ∃ b off, ao2 = some ⟨b, off, none⟩ ∧ 0 ≤ b ∧ b < w.heap.size ∧ ∀ i, i < n1 → ∃ cs : List Value, cs.length = 15 ∧ NdR 0 w cs (xs.getD i Nd.none) ∧ ∀ j, j < 15 → w.cell? ⟨b, off + i * 15 + j, none⟩ = cs[j]?) := hr2
 clear hn1 hn2 hr1 hr2 hs
 go_enter Tryz.func14, Tryz.ntmps14
 go_wp2
 go_loopw [5] (fun i wr => ∃ k : Nat, k ≤ n1 ∧ i = .int .i64 k ∧ Below w.heap.size w wr) (fun i _ => n1 - (intOf i).toNat)
 case atStart => exact ⟨0, by omega, rfl, Below.refl _ _⟩
 case round =>
  obtain ⟨k, hk, rfl, hbel⟩ := hrel
  by_cases hkn : k < n1
  ·have hki : (k : Int) < (n1 : Int) := by omega
   obtain ⟨b, off, rfl, hlo, hb, hc⟩ := HR1 (by omega)
   obtain ⟨b', off', rfl, hlo', hb', hc'⟩ := HR2 (by omega)
   obtain ⟨cs, hcl, hRel, hcj⟩ := hc k hkn
   obtain ⟨cs', hcl', hRel', hcj'⟩ := hc' k hkn
   obtain ⟨t, ht⟩ : ∃ t, t = xs.getD k Nd.none := ⟨_, rfl⟩
   rw [← ht] at hRel hRel'
   have hneq : ∀ W : World, (binOp .neq 36 (ndV t) (ndV t)).run Tryz.prog W = .ok (.bool false) W := fun W => by
    rw [neqNode, show eqNd t t = true from (eqNd_iff t t).2 rfl]; rfl
   obtain ⟨kd, wd, hh, dp, sh, fo, ch, nn, gs, gp, gpo, gm, gmo, tx, kids⟩ := t
   rw [show cs = _ from hRel] at hcj
   rw [show cs' = _ from hRel'] at hcj'
   simp only [Nd.cells] at hcj hcj'
   have BD : Below w.heap.size w wr.drew := Below.drew hbel
   have HBD := hideP BD
   have hS : (fun x : World => (x.cell? ⟨b, off + k * 15, none⟩ = some (.int .i64 kd) ∧ x.cell? ⟨b, off + k * 15 + 1, none⟩ = some (.int .i64 wd) ∧ x.cell? ⟨b, off + k * 15 + 2, none⟩ = some (.int .i64 hh) ∧ x.cell? ⟨b, off + k * 15 + 3, none⟩ = some (.int .i64 dp) ∧ x.cell? ⟨b, off + k * 15 + 4, none⟩ = some (.int .i64 sh) ∧ x.cell? ⟨b, off + k * 15 + 5, none⟩ = some (.int .i64 fo) ∧ x.cell? ⟨b, off + k * 15 + 6, none⟩ = some (.int .i64 ch) ∧ x.cell? ⟨b, off + k * 15 + 7, none⟩ = some (.int .i64 nn) ∧ x.cell? ⟨b, off + k * 15 + 8, none⟩ = some (.int .i64 gs) ∧ x.cell? ⟨b, off + k * 15 + 9, none⟩ = some (.int .i64 gp) ∧ x.cell? ⟨b, off + k * 15 + 10, none⟩ = some (.int .i64 gpo) ∧ x.cell? ⟨b, off + k * 15 + 11, none⟩ = some (.int .i64 gm) ∧ x.cell? ⟨b, off + k * 15 + 12, none⟩ = some (.int .i64 gmo) ∧ x.cell? ⟨b, off + k * 15 + 13, none⟩ = some (.string tx) ∧ x.cell? ⟨b, off + k * 15 + 14, none⟩ = some (.int .i64 kids)) ∧ (x.cell? ⟨b', off' + k * 15, none⟩ = some (.int .i64 kd) ∧ x.cell? ⟨b', off' + k * 15 + 1, none⟩ = some (.int .i64 wd) ∧ x.cell? ⟨b', off' + k * 15 + 2, none⟩ = some (.int .i64 hh) ∧ x.cell? ⟨b', off' + k * 15 + 3, none⟩ = some (.int .i64 dp) ∧ x.cell? ⟨b', off' + k * 15 + 4, none⟩ = some (.int .i64 sh) ∧ x.cell? ⟨b', off' + k * 15 + 5, none⟩ = some (.int .i64 fo) ∧ x.cell? ⟨b', off' + k * 15 + 6, none⟩ = some (.int .i64 ch) ∧ x.cell? ⟨b', off' + k * 15 + 7, none⟩ = some (.int .i64 nn) ∧ x.cell? ⟨b', off' + k * 15 + 8, none⟩ = some (.int .i64 gs) ∧ x.cell? ⟨b', off' + k * 15 + 9, none⟩ = some (.int .i64 gp) ∧ x.cell? ⟨b', off' + k * 15 + 10, none⟩ = some (.int .i64 gpo) ∧ x.cell? ⟨b', off' + k * 15 + 11, none⟩ = some (.int .i64 gm) ∧ x.cell? ⟨b', off' + k * 15 + 12, none⟩ = some (.int .i64 gmo) ∧ x.cell? ⟨b', off' + k * 15 + 13, none⟩ = some (.string tx) ∧ x.cell? ⟨b', off' + k * 15 + 14, none⟩ = some (.int .i64 kids))) wr.drew := ⟨⟨(BD.cell (p := ⟨b, off + k * 15, none⟩) hb).trans (hcj 0 (by omega)), (BD.cell (p := ⟨b, off + k * 15 + 1, none⟩) hb).trans (hcj 1 (by omega)), (BD.cell (p := ⟨b, off + k * 15 + 2, none⟩) hb).trans (hcj 2 (by omega)), (BD.cell (p := ⟨b, off + k * 15 + 3, none⟩) hb).trans (hcj 3 (by omega)), (BD.cell (p := ⟨b, off + k * 15 + 4, none⟩) hb).trans (hcj 4 (by omega)), (BD.cell (p := ⟨b, off + k * 15 + 5, none⟩) hb).trans (hcj 5 (by omega)), (BD.cell (p := ⟨b, off + k * 15 + 6, none⟩) hb).trans (hcj 6 (by omega)), (BD.cell (p := ⟨b, off + k * 15 + 7, none⟩) hb).trans (hcj 7 (by omega)), (BD.cell (p := ⟨b, off + k * 15 + 8, none⟩) hb).trans (hcj 8 (by omega)), (BD.cell (p := ⟨b, off + k * 15 + 9, none⟩) hb).trans (hcj 9 (by omega)), (BD.cell (p := ⟨b, off + k * 15 + 10, none⟩) hb).trans (hcj 10 (by omega)), (BD.cell (p := ⟨b, off + k * 15 + 11, none⟩) hb).trans (hcj 11 (by omega)), (BD.cell (p := ⟨b, off + k * 15 + 12, none⟩) hb).trans (hcj 12 (by omega)), (BD.cell (p := ⟨b, off + k * 15 + 13, none⟩) hb).trans (hcj 13 (by omega)), (BD.cell (p := ⟨b, off + k * 15 + 14, none⟩) hb).trans (hcj 14 (by omega))⟩, ⟨(BD.cell (p := ⟨b', off' + k * 15, none⟩) hb').trans (hcj' 0 (by omega)), (BD.cell (p := ⟨b', off' + k * 15 + 1, none⟩) hb').trans (hcj' 1 (by omega)), (BD.cell (p := ⟨b', off' + k * 15 + 2, none⟩) hb').trans (hcj' 2 (by omega)), (BD.cell (p := ⟨b', off' + k * 15 + 3, none⟩) hb').trans (hcj' 3 (by omega)), (BD.cell (p := ⟨b', off' + k * 15 + 4, none⟩) hb').trans (hcj' 4 (by omega)), (BD.cell (p := ⟨b', off' + k * 15 + 5, none⟩) hb').trans (hcj' 5 (by omega)), (BD.cell (p := ⟨b', off' + k * 15 + 6, none⟩) hb').trans (hcj' 6 (by omega)), (BD.cell (p := ⟨b', off' + k * 15 + 7, none⟩) hb').trans (hcj' 7 (by omega)), (BD.cell (p := ⟨b', off' + k * 15 + 8, none⟩) hb').trans (hcj' 8 (by omega)), (BD.cell (p := ⟨b', off' + k * 15 + 9, none⟩) hb').trans (hcj' 9 (by omega)), (BD.cell (p := ⟨b', off' + k * 15 + 10, none⟩) hb').trans (hcj' 10 (by omega)), (BD.cell (p := ⟨b', off' + k * 15 + 11, none⟩) hb').trans (hcj' 11 (by omega)), (BD.cell (p := ⟨b', off' + k * 15 + 12, none⟩) hb').trans (hcj' 12 (by omega)), (BD.cell (p := ⟨b', off' + k * 15 + 13, none⟩) hb').trans (hcj' 13 (by omega)), (BD.cell (p := ⟨b', off' + k * 15 + 14, none⟩) hb').trans (hcj' 14 (by omega))⟩⟩
   clear hc hc' hcl hcl' hcj hcj' hbel ht BD hRel hRel'
   go_upto_region 6 with fail
   refine wp_region_held_drew (S := fun x => (x.cell? ⟨b, off + k * 15, none⟩ = some (.int .i64 kd) ∧ x.cell? ⟨b, off + k * 15 + 1, none⟩ = some (.int .i64 wd) ∧ x.cell? ⟨b, off + k * 15 + 2, none⟩ = some (.int .i64 hh) ∧ x.cell? ⟨b, off + k * 15 + 3, none⟩ = some (.int .i64 dp) ∧ x.cell? ⟨b, off + k * 15 + 4, none⟩ = some (.int .i64 sh) ∧ x.cell? ⟨b, off + k * 15 + 5, none⟩ = some (.int .i64 fo) ∧ x.cell? ⟨b, off + k * 15 + 6, none⟩ = some (.int .i64 ch) ∧ x.cell? ⟨b, off + k * 15 + 7, none⟩ = some (.int .i64 nn) ∧ x.cell? ⟨b, off + k * 15 + 8, none⟩ = some (.int .i64 gs) ∧ x.cell? ⟨b, off + k * 15 + 9, none⟩ = some (.int .i64 gp) ∧ x.cell? ⟨b, off + k * 15 + 10, none⟩ = some (.int .i64 gpo) ∧ x.cell? ⟨b, off + k * 15 + 11, none⟩ = some (.int .i64 gm) ∧ x.cell? ⟨b, off + k * 15 + 12, none⟩ = some (.int .i64 gmo) ∧ x.cell? ⟨b, off + k * 15 + 13, none⟩ = some (.string tx) ∧ x.cell? ⟨b, off + k * 15 + 14, none⟩ = some (.int .i64 kids)) ∧ (x.cell? ⟨b', off' + k * 15, none⟩ = some (.int .i64 kd) ∧ x.cell? ⟨b', off' + k * 15 + 1, none⟩ = some (.int .i64 wd) ∧ x.cell? ⟨b', off' + k * 15 + 2, none⟩ = some (.int .i64 hh) ∧ x.cell? ⟨b', off' + k * 15 + 3, none⟩ = some (.int .i64 dp) ∧ x.cell? ⟨b', off' + k * 15 + 4, none⟩ = some (.int .i64 sh) ∧ x.cell? ⟨b', off' + k * 15 + 5, none⟩ = some (.int .i64 fo) ∧ x.cell? ⟨b', off' + k * 15 + 6, none⟩ = some (.int .i64 ch) ∧ x.cell? ⟨b', off' + k * 15 + 7, none⟩ = some (.int .i64 nn) ∧ x.cell? ⟨b', off' + k * 15 + 8, none⟩ = some (.int .i64 gs) ∧ x.cell? ⟨b', off' + k * 15 + 9, none⟩ = some (.int .i64 gp) ∧ x.cell? ⟨b', off' + k * 15 + 10, none⟩ = some (.int .i64 gpo) ∧ x.cell? ⟨b', off' + k * 15 + 11, none⟩ = some (.int .i64 gm) ∧ x.cell? ⟨b', off' + k * 15 + 12, none⟩ = some (.int .i64 gmo) ∧ x.cell? ⟨b', off' + k * 15 + 13, none⟩ = some (.string tx) ∧ x.cell? ⟨b', off' + k * 15 + 14, none⟩ = some (.int .i64 kids))) (by kernel_rfl) hS (fun hS => ?_)
   refine tkS (i := 0) (v := .slice (some ⟨b, off, none⟩) n1 cap1) rfl hS ?_
   try simp only [Act.put, List.getElem_toArray, List.getElem_cons_zero, List.getElem_cons_succ, List.setIfInBounds_toArray, List.set_cons_zero, List.set_cons_succ]
   refine tkS (i := 1) (v := .int .i64 (k : Int)) rfl hS ?_
   try simp only [Act.put, List.getElem_toArray, List.getElem_cons_zero, List.getElem_cons_succ, List.setIfInBounds_toArray, List.set_cons_zero, List.set_cons_succ]
   refine tkS (i := 2) (v := .pointer (some ⟨b, off + k * 15, none⟩)) rfl hS ?_
   try simp only [Act.put, List.getElem_toArray, List.getElem_cons_zero, List.getElem_cons_succ, List.setIfInBounds_toArray, List.set_cons_zero, List.set_cons_succ]
   refine tkS (i := 3) (v := ndV ⟨kd, wd, hh, dp, sh, fo, ch, nn, gs, gp, gpo, gm, gmo, tx, kids⟩) rfl hS ?_
   try simp only [Act.put, List.getElem_toArray, List.getElem_cons_zero, List.getElem_cons_succ, List.setIfInBounds_toArray, List.set_cons_zero, List.set_cons_succ]
   refine tkS (i := 4) (v := .slice (some ⟨b', off', none⟩) n1 cap2) rfl hS ?_
   try simp only [Act.put, List.getElem_toArray, List.getElem_cons_zero, List.getElem_cons_succ, List.setIfInBounds_toArray, List.set_cons_zero, List.set_cons_succ]
   refine tkS (i := 5) (v := .int .i64 (k : Int)) rfl hS ?_
   try simp only [Act.put, List.getElem_toArray, List.getElem_cons_zero, List.getElem_cons_succ, List.setIfInBounds_toArray, List.set_cons_zero, List.set_cons_succ]
   refine tkS (i := 6) (v := .pointer (some ⟨b', off' + k * 15, none⟩)) rfl hS ?_
   try simp only [Act.put, List.getElem_toArray, List.getElem_cons_zero, List.getElem_cons_succ, List.setIfInBounds_toArray, List.set_cons_zero, List.set_cons_succ]
   refine tkS (i := 7) (v := ndV ⟨kd, wd, hh, dp, sh, fo, ch, nn, gs, gp, gpo, gm, gmo, tx, kids⟩) rfl hS ?_
   try simp only [Act.put, List.getElem_toArray, List.getElem_cons_zero, List.getElem_cons_succ, List.setIfInBounds_toArray, List.set_cons_zero, List.set_cons_succ]
   refine tkS (i := 8) (v := .bool false) rfl hS ?_
   try simp only [Act.put, List.getElem_toArray, List.getElem_cons_zero, List.getElem_cons_succ, List.setIfInBounds_toArray, List.set_cons_zero, List.set_cons_succ]
   refine wpAnyH_done (by kernel_rfl) ?_ _
   go_wp2
   go_roundw
   case rel => exact ⟨k + 1, by omega, by go_num, HBD.out⟩
   case measure => simp [intOf]; omega
  ·have hki : ¬ (k : Int) < (n1 : Int) := by omega
   have HB : Hid (Below w.heap.size w wr) := hbel
   clear hbel
   go_wp2
   go_ret
   exact ⟨rfl, HB⟩
end Go.Proofs.YtbbehmcekbnkiaaGreat
