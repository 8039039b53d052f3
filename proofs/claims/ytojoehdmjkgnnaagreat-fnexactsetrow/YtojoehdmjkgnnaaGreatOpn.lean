import Derived.Test.YtojoehdmjkgnnaaGreatNdt
import Derived.Deep.RegionWith
import Derived.Deep.RegionHeld3
import Derived.Test.YtojoehdmjkgnnaaGreatRows
import Derived.Test.YtojoehdmjkgnnaaGreatChecked
import Derived.ProofKit
import Derived.OpenShut
import Derived.ShutString
import Derived.ChangeOld
import Derived.Lib.SmallJoins
import Derived.Deep.Slices
namespace Go.Proofs.YtojoehdmjkgnnaaGreat
open Go.RowKit
set_option linter.unusedVariables false
set_option linter.unusedSimpArgs false
set_option maxHeartbeats 4000000 in
theorem eqNodeS_same {v1 v2 : Value} {xs : List Nd} {w : World} (h1 : NRow 0 w v1 xs) (h2 : NRow 0 w v2 xs) (hs : xs.length ≤ 1048576) :
 Calls Tryz.prog 28 #[v1, v2] w fun e w' => e = .returned (.bool true) ∧ Below w.heap.size w w' := by
 obtain ⟨ao1, n1, cap1, rfl, hn1, hr1⟩ := h1
 obtain ⟨ao2, n2, cap2, rfl, hn2, hr2⟩ := h2
 obtain rfl : n1 = n2 := by omega
 have hx : n1 ≤ 1048576 := by rw [← hn1]; exact hs
 have HL : Hid (xs.length = n1) := hn1
 have HR1 : Hid (0 < n1 → ∃ b off, ao1 = some ⟨b, off, none⟩ ∧ 0 ≤ b ∧ b < w.heap.size ∧ ∀ i, i < n1 → ∃ cs : List Value, cs.length = 15 ∧ NdR 0 w cs (xs.getD i Nd.none) ∧ ∀ j, j < 15 → w.cell? ⟨b, off + i * 15 + j, none⟩ = cs[j]?) := hr1
 have HR2 : Hid (0 < n1 → ∃ b off, ao2 = some ⟨b, off, none⟩ ∧ 0 ≤ b ∧ b < w.heap.size ∧ ∀ i, i < n1 → ∃ cs : List Value, cs.length = 15 ∧ NdR 0 w cs (xs.getD i Nd.none) ∧ ∀ j, j < 15 → w.cell? ⟨b, off + i * 15 + j, none⟩ = cs[j]?) := hr2
 clear hn1 hn2 hr1 hr2 hs
 go_enter Tryz.func28, Tryz.ntmps28
 go_wp2
 go_loopw [5] (fun i wr => ∃ k : Nat, k ≤ n1 ∧ i = .int .i64 k ∧ Below w.heap.size w wr) (fun i _ => n1 - (intOf i).toNat)
 case atStart => exact ⟨0, by omega, rfl, Below.refl _ _⟩
 case round =>
  obtain ⟨k, hk, rfl, hbel⟩ := hrel
  by_cases hkn : k < n1
  ·have hki : (k : Int) < (n1 : Int) := by omega
   obtain ⟨b, off, rfl, hlo, hb, hc⟩ := HR1 (by omega)
   obtain ⟨b', off', rfl, hlo', hb', hc'⟩ := HR2 (by omega)
   obtain ⟨cs, hcl, hRel, hcj⟩ := hc k hkn
   obtain ⟨cs', hcl', hRel', hcj'⟩ := hc' k hkn
   obtain ⟨t, ht⟩ : ∃ t, t = xs.getD k Nd.none := ⟨_, rfl⟩
   rw [← ht] at hRel hRel'
   have HC : Hid (∀ W : World, Calls Tryz.prog 65 #[ndV t, ndV t] W fun r w' => r = .returned (.bool true) ∧ Below W.heap.size W w') := hideP (fun W => eqNode_same t W)
   obtain ⟨kd, wd, hh, dp, sh, fo, ch, nn, gs, gp, gpo, gm, gmo, tx, kids⟩ := t
   rw [show cs = _ from hRel] at hcj
   rw [show cs' = _ from hRel'] at hcj'
   simp only [Nd.cells] at hcj hcj'
   have BD : Below w.heap.size w wr.drew := Below.drew hbel
   have QA : Hid (∀ x, Below w.heap.size w x → x.cell? ⟨b, off + k * 15, none⟩ = some (.int .i64 kd) ∧ x.cell? ⟨b, off + k * 15 + 1, none⟩ = some (.int .i64 wd) ∧ x.cell? ⟨b, off + k * 15 + 2, none⟩ = some (.int .i64 hh) ∧ x.cell? ⟨b, off + k * 15 + 3, none⟩ = some (.int .i64 dp) ∧ x.cell? ⟨b, off + k * 15 + 4, none⟩ = some (.int .i64 sh) ∧ x.cell? ⟨b, off + k * 15 + 5, none⟩ = some (.int .i64 fo) ∧ x.cell? ⟨b, off + k * 15 + 6, none⟩ = some (.int .i64 ch) ∧ x.cell? ⟨b, off + k * 15 + 7, none⟩ = some (.int .i64 nn) ∧ x.cell? ⟨b, off + k * 15 + 8, none⟩ = some (.int .i64 gs) ∧ x.cell? ⟨b, off + k * 15 + 9, none⟩ = some (.int .i64 gp) ∧ x.cell? ⟨b, off + k * 15 + 10, none⟩ = some (.int .i64 gpo) ∧ x.cell? ⟨b, off + k * 15 + 11, none⟩ = some (.int .i64 gm) ∧ x.cell? ⟨b, off + k * 15 + 12, none⟩ = some (.int .i64 gmo) ∧ x.cell? ⟨b, off + k * 15 + 13, none⟩ = some (.string tx) ∧ x.cell? ⟨b, off + k * 15 + 14, none⟩ = some (.int .i64 kids)) := hideP (fun x hx => ⟨(Below.cell hx (p := ⟨b, off + k * 15 + 0, none⟩) hb).trans (hcj 0 (by omega)), (Below.cell hx (p := ⟨b, off + k * 15 + 1, none⟩) hb).trans (hcj 1 (by omega)), (Below.cell hx (p := ⟨b, off + k * 15 + 2, none⟩) hb).trans (hcj 2 (by omega)), (Below.cell hx (p := ⟨b, off + k * 15 + 3, none⟩) hb).trans (hcj 3 (by omega)), (Below.cell hx (p := ⟨b, off + k * 15 + 4, none⟩) hb).trans (hcj 4 (by omega)), (Below.cell hx (p := ⟨b, off + k * 15 + 5, none⟩) hb).trans (hcj 5 (by omega)), (Below.cell hx (p := ⟨b, off + k * 15 + 6, none⟩) hb).trans (hcj 6 (by omega)), (Below.cell hx (p := ⟨b, off + k * 15 + 7, none⟩) hb).trans (hcj 7 (by omega)), (Below.cell hx (p := ⟨b, off + k * 15 + 8, none⟩) hb).trans (hcj 8 (by omega)), (Below.cell hx (p := ⟨b, off + k * 15 + 9, none⟩) hb).trans (hcj 9 (by omega)), (Below.cell hx (p := ⟨b, off + k * 15 + 10, none⟩) hb).trans (hcj 10 (by omega)), (Below.cell hx (p := ⟨b, off + k * 15 + 11, none⟩) hb).trans (hcj 11 (by omega)), (Below.cell hx (p := ⟨b, off + k * 15 + 12, none⟩) hb).trans (hcj 12 (by omega)), (Below.cell hx (p := ⟨b, off + k * 15 + 13, none⟩) hb).trans (hcj 13 (by omega)), (Below.cell hx (p := ⟨b, off + k * 15 + 14, none⟩) hb).trans (hcj 14 (by omega))⟩)
   have QB : Hid (∀ x, Below w.heap.size w x → x.cell? ⟨b', off' + k * 15, none⟩ = some (.int .i64 kd) ∧ x.cell? ⟨b', off' + k * 15 + 1, none⟩ = some (.int .i64 wd) ∧ x.cell? ⟨b', off' + k * 15 + 2, none⟩ = some (.int .i64 hh) ∧ x.cell? ⟨b', off' + k * 15 + 3, none⟩ = some (.int .i64 dp) ∧ x.cell? ⟨b', off' + k * 15 + 4, none⟩ = some (.int .i64 sh) ∧ x.cell? ⟨b', off' + k * 15 + 5, none⟩ = some (.int .i64 fo) ∧ x.cell? ⟨b', off' + k * 15 + 6, none⟩ = some (.int .i64 ch) ∧ x.cell? ⟨b', off' + k * 15 + 7, none⟩ = some (.int .i64 nn) ∧ x.cell? ⟨b', off' + k * 15 + 8, none⟩ = some (.int .i64 gs) ∧ x.cell? ⟨b', off' + k * 15 + 9, none⟩ = some (.int .i64 gp) ∧ x.cell? ⟨b', off' + k * 15 + 10, none⟩ = some (.int .i64 gpo) ∧ x.cell? ⟨b', off' + k * 15 + 11, none⟩ = some (.int .i64 gm) ∧ x.cell? ⟨b', off' + k * 15 + 12, none⟩ = some (.int .i64 gmo) ∧ x.cell? ⟨b', off' + k * 15 + 13, none⟩ = some (.string tx) ∧ x.cell? ⟨b', off' + k * 15 + 14, none⟩ = some (.int .i64 kids)) := hideP (fun x hx => ⟨(Below.cell hx (p := ⟨b', off' + k * 15 + 0, none⟩) hb').trans (hcj' 0 (by omega)), (Below.cell hx (p := ⟨b', off' + k * 15 + 1, none⟩) hb').trans (hcj' 1 (by omega)), (Below.cell hx (p := ⟨b', off' + k * 15 + 2, none⟩) hb').trans (hcj' 2 (by omega)), (Below.cell hx (p := ⟨b', off' + k * 15 + 3, none⟩) hb').trans (hcj' 3 (by omega)), (Below.cell hx (p := ⟨b', off' + k * 15 + 4, none⟩) hb').trans (hcj' 4 (by omega)), (Below.cell hx (p := ⟨b', off' + k * 15 + 5, none⟩) hb').trans (hcj' 5 (by omega)), (Below.cell hx (p := ⟨b', off' + k * 15 + 6, none⟩) hb').trans (hcj' 6 (by omega)), (Below.cell hx (p := ⟨b', off' + k * 15 + 7, none⟩) hb').trans (hcj' 7 (by omega)), (Below.cell hx (p := ⟨b', off' + k * 15 + 8, none⟩) hb').trans (hcj' 8 (by omega)), (Below.cell hx (p := ⟨b', off' + k * 15 + 9, none⟩) hb').trans (hcj' 9 (by omega)), (Below.cell hx (p := ⟨b', off' + k * 15 + 10, none⟩) hb').trans (hcj' 10 (by omega)), (Below.cell hx (p := ⟨b', off' + k * 15 + 11, none⟩) hb').trans (hcj' 11 (by omega)), (Below.cell hx (p := ⟨b', off' + k * 15 + 12, none⟩) hb').trans (hcj' 12 (by omega)), (Below.cell hx (p := ⟨b', off' + k * 15 + 13, none⟩) hb').trans (hcj' 13 (by omega)), (Below.cell hx (p := ⟨b', off' + k * 15 + 14, none⟩) hb').trans (hcj' 14 (by omega))⟩)
   have HB : Hid (Below w.heap.size w wr) := hbel
   have HBD : Hid (Below w.heap.size w wr.drew) := BD
   clear hc hc' hcl hcl' hcj hcj' hbel ht BD hRel hRel'
   go_wp2_with fail
   go_region_held3 (fun x => (x.cell? ⟨b, off + k * 15, none⟩ = some (.int .i64 kd) ∧ x.cell? ⟨b, off + k * 15 + 1, none⟩ = some (.int .i64 wd) ∧ x.cell? ⟨b, off + k * 15 + 2, none⟩ = some (.int .i64 hh) ∧ x.cell? ⟨b, off + k * 15 + 3, none⟩ = some (.int .i64 dp) ∧ x.cell? ⟨b, off + k * 15 + 4, none⟩ = some (.int .i64 sh) ∧ x.cell? ⟨b, off + k * 15 + 5, none⟩ = some (.int .i64 fo) ∧ x.cell? ⟨b, off + k * 15 + 6, none⟩ = some (.int .i64 ch) ∧ x.cell? ⟨b, off + k * 15 + 7, none⟩ = some (.int .i64 nn) ∧ x.cell? ⟨b, off + k * 15 + 8, none⟩ = some (.int .i64 gs) ∧ x.cell? ⟨b, off + k * 15 + 9, none⟩ = some (.int .i64 gp) ∧ x.cell? ⟨b, off + k * 15 + 10, none⟩ = some (.int .i64 gpo) ∧ x.cell? ⟨b, off + k * 15 + 11, none⟩ = some (.int .i64 gm) ∧ x.cell? ⟨b, off + k * 15 + 12, none⟩ = some (.int .i64 gmo) ∧ x.cell? ⟨b, off + k * 15 + 13, none⟩ = some (.string tx) ∧ x.cell? ⟨b, off + k * 15 + 14, none⟩ = some (.int .i64 kids)) ∧ (x.cell? ⟨b', off' + k * 15, none⟩ = some (.int .i64 kd) ∧ x.cell? ⟨b', off' + k * 15 + 1, none⟩ = some (.int .i64 wd) ∧ x.cell? ⟨b', off' + k * 15 + 2, none⟩ = some (.int .i64 hh) ∧ x.cell? ⟨b', off' + k * 15 + 3, none⟩ = some (.int .i64 dp) ∧ x.cell? ⟨b', off' + k * 15 + 4, none⟩ = some (.int .i64 sh) ∧ x.cell? ⟨b', off' + k * 15 + 5, none⟩ = some (.int .i64 fo) ∧ x.cell? ⟨b', off' + k * 15 + 6, none⟩ = some (.int .i64 ch) ∧ x.cell? ⟨b', off' + k * 15 + 7, none⟩ = some (.int .i64 nn) ∧ x.cell? ⟨b', off' + k * 15 + 8, none⟩ = some (.int .i64 gs) ∧ x.cell? ⟨b', off' + k * 15 + 9, none⟩ = some (.int .i64 gp) ∧ x.cell? ⟨b', off' + k * 15 + 10, none⟩ = some (.int .i64 gpo) ∧ x.cell? ⟨b', off' + k * 15 + 11, none⟩ = some (.int .i64 gm) ∧ x.cell? ⟨b', off' + k * 15 + 12, none⟩ = some (.int .i64 gmo) ∧ x.cell? ⟨b', off' + k * 15 + 13, none⟩ = some (.string tx) ∧ x.cell? ⟨b', off' + k * 15 + 14, none⟩ = some (.int .i64 kids))) (first | exact ⟨QA.out _ HBD.out, QB.out _ HBD.out⟩ | exact ⟨QA.out _ ‹Hid (Below w.heap.size w _)›, QB.out _ ‹Hid (Below w.heap.size w _)›⟩) ((go_at_call 65; refine (HC.out _).mono ?_; rintro e w2 ⟨rfl, hb1⟩; have hb2 : Hid (Below w.heap.size w w2) := below_more HBD.out hb1 HBD.out.size; clear hb1))
   all_goals
    go_wp2
    go_roundw
    case rel => exact ⟨k + 1, by omega, by go_num, ‹Hid (Below w.heap.size w w2)›⟩
    case measure => simp [intOf]; omega
  ·have hki : ¬ (k : Int) < (n1 : Int) := by omega
   have HB : Hid (Below w.heap.size w wr) := hbel
   clear hbel
   go_wp2
   go_ret
   exact ⟨rfl, HB⟩
end Go.Proofs.YtojoehdmjkgnnaaGreat
namespace Go.Proofs.YtojoehdmjkgnnaaGreat
open Go.ChangeShapes Go.WideShapes Go.ChangeAt Go.RowKit Go.Joins
set_option linter.unusedVariables false
set_option linter.unusedSimpArgs false
theorem ownT : ownKnob Tryz.prog.godebug = none := by kernel_rfl
theorem laidOut : laidOutB Tryz.prog = true := by kernel_rfl
theorem cells2 : Tryz.prog.cellsOf 2 = 1 := by kernel_rfl
theorem cells9 : Tryz.prog.cellsOf 9 = 1 := by kernel_rfl
theorem cells61 : Tryz.prog.cellsOf 61 = 5 := by kernel_rfl
theorem cells268 : Tryz.prog.cellsOf 268 = 15 := by kernel_rfl
theorem cells225 : Tryz.prog.cellsOf 225 = 1 := by kernel_rfl
theorem list5 {α : Type} {cs : List α} (h : cs.length = 5) : ∃ c0 c1 c2 c3 c4, cs = [c0, c1, c2, c3, c4] := by
 match cs, h with
 | [c0, c1, c2, c3, c4], _ => exact ⟨c0, c1, c2, c3, c4, rfl⟩
theorem list11 {α : Type} {cs : List α} (h : cs.length = 11) : ∃ c0 c1 c2 c3 c4 c5 c6 c7 c8 c9 c10, cs = [c0, c1, c2, c3, c4, c5, c6, c7, c8, c9, c10] := by
 match cs, h with
 | [c0, c1, c2, c3, c4, c5, c6, c7, c8, c9, c10], _ => exact ⟨c0, c1, c2, c3, c4, c5, c6, c7, c8, c9, c10, rfl⟩
theorem list15 {α : Type} {cs : List α} (h : cs.length = 15) : ∃ c0 c1 c2 c3 c4 c5 c6 c7 c8 c9 c10 c11 c12 c13 c14, cs = [c0, c1, c2, c3, c4, c5, c6, c7, c8, c9, c10, c11, c12, c13, c14] := by
 match cs, h with
 | [c0, c1, c2, c3, c4, c5, c6, c7, c8, c9, c10, c11, c12, c13, c14], _ => exact ⟨c0, c1, c2, c3, c4, c5, c6, c7, c8, c9, c10, c11, c12, c13, c14, rfl⟩
set_option maxRecDepth 100000 in
theorem openSlice {H : Type} {enc : TypeId × Value → H} {w : World} {base : Nat} {held : Bool} {fuel ty el sz : Nat} {v : Value} {y : DataW H × List MemPlace} {α : Type} {R : Nat → World → List Value → α → Prop} {F : α → Prop} (d : α)
 (hu : Tryz.prog.underlying ty = some (.slice el)) (hcell : Tryz.prog.cellsOf el = sz) (hpos : 0 < sz)
 (each : ∀ (fuel : Nat) (cs : List Value) (y : DataW H × List MemPlace), DataW.trod enc Tryz.prog w base (fun _ => true) held fuel el cs = some y → cs.length = sz → ∃ x, R 0 w cs x ∧ F x)
 (hf : DataW.trod enc Tryz.prog w base (fun _ => true) held fuel ty [v] = some y) : ∃ xs : List α, SRow sz R d 0 w v xs ∧ xs.length ≤ 9223372036854775807 ∧ ∀ i, i < xs.length → F (xs.getD i d) := by
 rcases Go.Deep.open_slice hu hf with ⟨hcs, hx⟩ | ⟨a, len, cap, m, n, D, Pl, hcs, _, hl, hm, hmm, hx, hel⟩
 ·simp at hcs
  subst hcs
  exact ⟨[], ⟨none, 0, 0, rfl, rfl, fun h => by omega⟩, Nat.zero_le _, fun i hi => by simp at hi⟩
 ·simp at hcs
  subst hcs
  by_cases h0 : len = 0
  ·subst h0
   exact ⟨[], ⟨_, 0, cap, rfl, rfl, fun h => by omega⟩, Nat.zero_le _, fun i hi => by simp at hi⟩
  ·rw [hcell] at hel
   have hplain : ∃ b off, a = ⟨b, off, none⟩ := by
    obtain ⟨cs', hcells, htr⟩ := hel 0 (by simp at hmm; omega)
    obtain ⟨_, hlen, hat⟩ := World.cells?_some hcells
    have h1 := hat 0 hpos
    rw [List.getElem?_eq_getElem (by omega)] at h1
    obtain ⟨b, off, spot⟩ := a
    have hspot : spot = none := by simpa [Addr.add] using World.cell?_spot h1
    subst hspot
    exact ⟨b, off, rfl⟩
   obtain ⟨b, off, rfl⟩ := hplain
   have each2 : ∀ i, i < len → ∃ x : α, F x ∧ ∃ cs : List Value, cs.length = sz ∧ R 0 w cs x ∧ ∀ j, j < sz → w.cell? ⟨b, off + i * sz + j, none⟩ = cs[j]? := by
    intro i hi
    obtain ⟨cs', hcells, htr⟩ := hel i (by simp at hmm; omega)
    rw [add_plain] at hcells
    obtain ⟨_, hlen, hat⟩ := World.cells?_some hcells
    obtain ⟨x, hR, hF⟩ := each _ _ _ htr hlen
    refine ⟨x, hF, cs', hlen, hR, fun j hj => ?_⟩
    have := hat j hj
    rw [add_plain] at this
    exact this
   let f : Nat → α := fun i => if hi : i < len then Classical.choose (each2 i hi) else d
   have hff : ∀ i, (hi : i < len) → F (f i) ∧ ∃ cs : List Value, cs.length = sz ∧ R 0 w cs (f i) ∧ ∀ j, j < sz → w.cell? ⟨b, off + i * sz + j, none⟩ = cs[j]? := by
    intro i hi
    have := Classical.choose_spec (each2 i hi)
    simp only [f, dif_pos hi]
    exact this
   have hget : ∀ i, i < len → ((List.range len).map f).getD i d = f i := by
    intro i hi
    simp [List.getD, List.getElem?_map, List.getElem?_range hi]
   have hblock : b < w.heap.size := by
    obtain ⟨_, cs, hcl, _, hj⟩ := hff 0 (by omega)
    have h1 := hj 0 hpos
    rw [List.getElem?_eq_getElem (by omega)] at h1
    exact World.block_lt_of_cell? w _ h1
   refine ⟨(List.range len).map f, ⟨_, len, cap, rfl, by simp, fun hp => ⟨b, off, rfl, Nat.zero_le _, hblock, fun i hi => ?_⟩⟩, ?_, ?_⟩
   ·rw [hget i hi]
    exact (hff i hi).2
   ·simp
    unfold maxLen at hm
    omega
   ·intro i hi
    have hi' : i < len := by simpa using hi
    rw [hget i hi']
    exact (hff i hi').1
set_option maxRecDepth 100000 in
theorem openNode {H : Type} {enc : TypeId × Value → H} {w : World} {base : Nat} {held : Bool} {fuel : Nat} {cs : List Value} {y : DataW H × List MemPlace} (hl : cs.length = 15)
 (hf : DataW.trod enc Tryz.prog w base (fun _ => true) held fuel 268 cs = some y) : ∃ x : Nd, NdR 0 w cs x ∧ FnN x := by
 obtain ⟨c0, c1, c2, c3, c4, c5, c6, c7, c8, c9, c10, c11, c12, c13, c14, rfl⟩ := list15 hl
 obtain ⟨xs, n, _, _, _, hlen, hfs⟩ := DataW.trod_struct Tryz.underlying268 hf
 obtain ⟨y0, y1, y2, y3, y4, y5, y6, y7, y8, y9, y10, rfl⟩ := list11 (by simpa using hlen)
 have g0 : DataW.trod enc Tryz.prog w base (fun _ => true) held n 2 [c0] = some y0 := by simpa [cells2, cells9, cells61] using hfs 0 _ rfl
 have g1 : DataW.trod enc Tryz.prog w base (fun _ => true) held n 2 [c1] = some y1 := by simpa [cells2, cells9, cells61] using hfs 1 _ rfl
 have g2 : DataW.trod enc Tryz.prog w base (fun _ => true) held n 2 [c2] = some y2 := by simpa [cells2, cells9, cells61] using hfs 2 _ rfl
 have g3 : DataW.trod enc Tryz.prog w base (fun _ => true) held n 2 [c3] = some y3 := by simpa [cells2, cells9, cells61] using hfs 3 _ rfl
 have g4 : DataW.trod enc Tryz.prog w base (fun _ => true) held n 2 [c4] = some y4 := by simpa [cells2, cells9, cells61] using hfs 4 _ rfl
 have g5 : DataW.trod enc Tryz.prog w base (fun _ => true) held n 2 [c5] = some y5 := by simpa [cells2, cells9, cells61] using hfs 5 _ rfl
 have g6 : DataW.trod enc Tryz.prog w base (fun _ => true) held n 2 [c6] = some y6 := by simpa [cells2, cells9, cells61] using hfs 6 _ rfl
 have g7 : DataW.trod enc Tryz.prog w base (fun _ => true) held n 2 [c7] = some y7 := by simpa [cells2, cells9, cells61] using hfs 7 _ rfl
 have g8 : DataW.trod enc Tryz.prog w base (fun _ => true) held n 61 [c8, c9, c10, c11, c12] = some y8 := by simpa [cells2, cells9, cells61] using hfs 8 _ rfl
 have g9 : DataW.trod enc Tryz.prog w base (fun _ => true) held n 9 [c13] = some y9 := by simpa [cells2, cells9, cells61] using hfs 9 _ rfl
 have g10 : DataW.trod enc Tryz.prog w base (fun _ => true) held n 2 [c14] = some y10 := by simpa [cells2, cells9, cells61] using hfs 10 _ rfl
 obtain ⟨xs2, n2, _, _, _, hlen2, hfs2⟩ := DataW.trod_struct Tryz.underlying61 g8
 obtain ⟨z0, z1, z2, z3, z4, rfl⟩ := list5 (by simpa using hlen2)
 have e0 : DataW.trod enc Tryz.prog w base (fun _ => true) held n2 2 [c8] = some z0 := by simpa [cells2] using hfs2 0 _ rfl
 have e1 : DataW.trod enc Tryz.prog w base (fun _ => true) held n2 2 [c9] = some z1 := by simpa [cells2] using hfs2 1 _ rfl
 have e2 : DataW.trod enc Tryz.prog w base (fun _ => true) held n2 2 [c10] = some z2 := by simpa [cells2] using hfs2 2 _ rfl
 have e3 : DataW.trod enc Tryz.prog w base (fun _ => true) held n2 2 [c11] = some z3 := by simpa [cells2] using hfs2 3 _ rfl
 have e4 : DataW.trod enc Tryz.prog w base (fun _ => true) held n2 2 [c12] = some z4 := by simpa [cells2] using hfs2 4 _ rfl
 obtain ⟨k, i0, _, _⟩ := DataW.trod_int Tryz.underlying2 g0
 obtain ⟨wd, i1, _, _⟩ := DataW.trod_int Tryz.underlying2 g1
 obtain ⟨ht, i2, _, _⟩ := DataW.trod_int Tryz.underlying2 g2
 obtain ⟨dp, i3, _, _⟩ := DataW.trod_int Tryz.underlying2 g3
 obtain ⟨sh, i4, _, _⟩ := DataW.trod_int Tryz.underlying2 g4
 obtain ⟨fo, i5, _, _⟩ := DataW.trod_int Tryz.underlying2 g5
 obtain ⟨ch, i6, _, _⟩ := DataW.trod_int Tryz.underlying2 g6
 obtain ⟨nn, i7, _, _⟩ := DataW.trod_int Tryz.underlying2 g7
 obtain ⟨kids, i10, _, _⟩ := DataW.trod_int Tryz.underlying2 g10
 obtain ⟨gs, j0, _, _⟩ := DataW.trod_int Tryz.underlying2 e0
 obtain ⟨gp, j1, _, _⟩ := DataW.trod_int Tryz.underlying2 e1
 obtain ⟨gpo, j2, _, _⟩ := DataW.trod_int Tryz.underlying2 e2
 obtain ⟨gm, j3, _, _⟩ := DataW.trod_int Tryz.underlying2 e3
 obtain ⟨gmo, j4, _, _⟩ := DataW.trod_int Tryz.underlying2 e4
 obtain ⟨tx, t0, ht0⟩ := DataW.trod_string Tryz.underlying9 g9
 simp only [List.cons.injEq, and_true] at i0 i1 i2 i3 i4 i5 i6 i7 i10 j0 j1 j2 j3 j4 t0
 refine ⟨⟨k, wd, ht, dp, sh, fo, ch, nn, gs, gp, gpo, gm, gmo, tx, kids⟩, ?_, by first | exact ht0.2 | (unfold FnN; dsimp only; omega)⟩
 simp only [NdR, Nd.cells, i0, i1, i2, i3, i4, i5, i6, i7, i10, j0, j1, j2, j3, j4, t0]
end Go.Proofs.YtojoehdmjkgnnaaGreat
