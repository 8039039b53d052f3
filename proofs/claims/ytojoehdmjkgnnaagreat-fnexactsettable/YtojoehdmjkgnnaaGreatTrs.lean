import Derived.Test.YtojoehdmjkgnnaaGreatSra
import Derived.Test.YtojoehdmjkgnnaaGreatTwi
import Derived.Deep.RegionHeld3
import Derived.Deep.DeepCutAuto
import Derived.Test.YtojoehdmjkgnnaaGreatPlc
namespace Go.Proofs.YtojoehdmjkgnnaaGreat
open Go.RowKit
set_option linter.unusedVariables false
set_option linter.unusedSimpArgs false
abbrev stO (G A : Nat) (lv : Value) : Obj := .cells #[.pointer (some ⟨G, 0, none⟩), .pointer (some ⟨A, 0, none⟩), lv] 115 (0, 0)
theorem setRow_frs {w : World} {g : Nat} {cs : Array Value} (S : Nat → Prop) (hg : S g) : Frs S w (w.setRow g cs) :=
 ⟨rfl, rfl, rfl, by simp [World.setRow], fun b hb hn => setRow_other _ _ _ _ (fun e => hn (by rw [e]; exact hg))⟩
theorem own_one {w : World} {g base : Nat} {x : Nd} (hb : base ≤ g) (h : w.heap[g]? = some (ndO x)) : w.ownsRow base 36 15 (.slice (some ⟨g, 0, none⟩) 1 1) 1 (flatN [x]) := by
 refine ⟨by rw [flatN_len]; rfl, .inr ⟨g, 1, ndA x, rfl, hb, h, Nat.le_refl _, by unfold maxLen; omega, rfl, ?_⟩⟩
 simp [flatN, Nd.cells]
theorem filler_any (w : World) : Calls Tryz.prog 123 #[] w fun e w' => e = .returned (ndV filN) ∧ Below w.heap.size w w' := by
 go_enter Tryz.func123, Tryz.ntmps123
 go_wp2_with fail
 refine (node_space 0 65536 1 0 0 0 _).mono ?_
 rintro e w1 ⟨rfl, hb1⟩
 have hx : w1.heap[w.heap.size]? = some (ndO Nd.none) := (hb1.block _ (by simp)).trans (heap_alloc_new w _)
 have B1 : Hid (Below w.heap.size w w1) := hideP (below_more (below1 _ _) hb1 (by simp))
 have HX := hideP hx
 clear hb1 hx
 go_simp
 iterate 1 (first | go_values | go_skip | go_guarded | go_step | go_upon | go_in | go_back)
 refine wpList_store_row rfl 36 _ _ rfl w.heap.size rfl _ (ndA filN) rfl 36 HX.out (by kernel_rfl) rfl (by kernel_rfl) ?_
 obtain ⟨W, hW⟩ := exq (w1.setRow w.heap.size (ndA filN))
 have BW : Below w.heap.size w W := by rw [hW]; exact below_setRow B1.out (Nat.le_refl _) _
 have hl : (loadVar 36 ⟨w.heap.size, 0, none⟩).run Tryz.prog W = .ok (ndV filN) W := loadNd (by rw [hW]; exact setRow_heap _ _ _ _ _ _ HX.out)
 rw [← hW]
 clear hW HX B1
 go_wp2
 exact bodyPost_ret (v := ndV filN) (by simp [results, Tryz.results123, asAddr, Act.put, hl, Result.andThen]) rfl ⟨rfl, BW⟩
theorem startList_any {w : World} {S G A n B0 : Nat} {lv : Value} {L : List Value} (hS : w.heap[S]? = some (stO G A lv)) (o : w.ownsRow B0 36 15 lv n L) :
 Calls Tryz.prog 124 #[.pointer (some ⟨S, 0, none⟩)] w fun e w' => (∃ v, e = .returned v) ∧ ∃ a c, w'.heap[S]? = some (stO G A (.slice a 0 c)) ∧ w'.ownsRow B0 36 15 (.slice a 0 c) 0 (flatN []) ∧ (Value.slice a 0 c).ownBlock = lv.ownBlock ∧ Frs (fun b => b = S ∨ lv.ownBlock = some b) w w' := by
 have hSl : S < w.heap.size := (glt hS)
 have hne : lv.ownBlock ≠ some S := own_neB hS o (by decide)
 obtain ⟨a, c, rfl⟩ := ownG_shape o
 have hc2 : ∀ W : World, W.heap[S]? = some (stO G A (.slice a n c)) → W.cell? ⟨S, 2, none⟩ = some (.slice a n c) := fun W h => cell_of_row _ _ 2 _ 115 _ h
 have hfz : ∀ W : World, W.heap[S]? = some (stO G A (.slice a n c)) → W.frozen? ⟨S, 2, none⟩ = false := fun W h => frozen_of_row _ _ 2 _ _ h
 have hW : ∃ W, (∀ ty, (Builtin.clear_ #[24] ty #[.slice a n c]).run Tryz.prog w = .ok (.tuple #[]) W) ∧ W.heap[S]? = some (stO G A (.slice a n c)) ∧ W.heap.size = w.heap.size ∧ W.ownsRow B0 36 15 (.slice a 0 c) 0 (flatN []) ∧ Frs (fun b => b = S ∨ (Value.slice a n c).ownBlock = some b) w W ∧ 0 ≤ c := by
  rcases o.2 with ⟨e, h0⟩ | ⟨g, cap, cur, e, hb, hg, hn, hm, hsz, _⟩
  ·cases e
   exact ⟨w, fun ty => by simp [Builtin.clear_, run_underlying Tryz.underlying24], hS, rfl, World.ownsRow_nil _ _ _ _, Frs.refl _ _, Nat.zero_le _⟩
  ·cases e
   by_cases h0 : n = 0
   ·subst h0
    exact ⟨w, fun ty => by simp [Builtin.clear_, run_underlying Tryz.underlying24], hS, rfl, ⟨rfl, .inr ⟨g, c, cur, rfl, hb, hg, Nat.zero_le _, hm, hsz, by simp [flatN]⟩⟩, Frs.refl _ _, Nat.zero_le _⟩
   ·obtain ⟨cur', hs', hr⟩ := run_clearN (cap := c) hg (by rw [hsz]; exact Nat.mul_le_mul_right _ hn) h0
    have hgS : g ≠ S := fun e => hne (by rw [← e]; rfl)
    exact ⟨w.setRow g cur', hr, (setRow_other _ _ _ _ (fun e => hgS e.symm)).trans hS, by simp [World.setRow], ⟨rfl, .inr ⟨g, c, cur', rfl, hb, setRow_heap _ _ _ _ _ _ hg, Nat.zero_le _, hm, by rw [hs', hsz], by simp [flatN]⟩⟩, setRow_frs _ (.inr rfl), Nat.zero_le _⟩
 obtain ⟨W, hcl, hWS, hWs, hWo, hWf, _⟩ := hW
 have k2 := hc2 w hS
 have j2 := hc2 W hWS
 have jf := hfz W hWS
 have hSW : S < W.heap.size := by rw [hWs]; exact hSl
 have HO := hideP hWo
 have HF := hideP hWf
 have HS2 := hideP hWS
 have HNE := hideP hne
 clear hS o hWo hWf hWS hne hc2 hfz hWs
 go_enter Tryz.func124, Tryz.ntmps124
 go_wp2_with (simp only [hcl])
 go_end0
 refine ⟨⟨_, rfl⟩, a, c, heap_setCell_same _ S 2 _ 115 _ HS2.out, own_setR HO.out ?_ 2 _, ?_, HF.out.set (.inl rfl) _⟩
 ·intro e
  refine HNE.out ?_
  cases a with
  | none => cases e
  | some x => exact e
 ·cases a <;> rfl
theorem fld28 (u : Value) (s : Shr.Sett) (W : World) : (Instr.field 30 (packV u s) 0).run Tryz.prog W = .ok u W := by kernel_rfl
set_option maxHeartbeats 4000000 in
theorem l12RowOk_rule (x : Rw) {v : Value} {w : World} (cols : Int) (h : CRowN 0 w v x.cs) (hru : x.ru ≠ 0) (hlen : x.cs.length ≤ 1048576) :
 Calls Tryz.prog 101 #[rwV x v, .int .i64 cols] w fun e w' => e = .returned (.bool (rowB x cols)) ∧ Below w.heap.size w w' := by
 obtain ⟨ua, uc, rfl⟩ := h.shape
 clear h
 obtain ⟨rcs, ru⟩ := x
 have HF : Hid (∀ b : Bool, b = (decide (0 < ru) && decide (ru ≤ 1073741823) && decide (rcs.length = 0)) → rowB ⟨rcs, ru⟩ cols = b) := hideP (fun b hb => by rw [hb]; unfold rowB; rw [if_neg hru])
 dsimp only at hru hlen ⊢
 obtain ⟨n, hn⟩ := exq (rcs.length)
 rw [← hn] at HF hlen ⊢
 clear hn
 by_cases h1 : 0 < ru
 ·by_cases h2 : ru ≤ 1073741823
  ·by_cases h3 : n = 0
   ·subst h3
    go_enter Tryz.func101, Tryz.ntmps101
    go_wp2
    go_ret
    exact ⟨retB (HF.out _ (by simp [h1, h2])).symm, below1 _ _⟩
   ·have h4 : ¬ (n : Int) = 0 := by omega
    go_enter Tryz.func101, Tryz.ntmps101
    go_wp2
    go_ret
    exact ⟨retB (HF.out _ (by simp [h1, h2, h3])).symm, below1 _ _⟩
  ·go_enter Tryz.func101, Tryz.ntmps101
   go_wp2
   go_ret
   exact ⟨retB (HF.out _ (by simp [h1]; omega)).symm, below1 _ _⟩
 ·go_enter Tryz.func101, Tryz.ntmps101
  go_wp2
  go_ret
  exact ⟨retB (HF.out _ (by simp; omega)).symm, below1 _ _⟩
set_option maxRecDepth 20000 in
set_option maxHeartbeats 8000000 in
theorem l12RowOk_cells (x : Rw) {v : Value} {w : World} (cols : Int) (h : CRowN 0 w v x.cs) (hru : x.ru = 0) (hs : SmW x) (hc0 : 1 ≤ cols) (hc1 : cols ≤ 20) :
 Calls Tryz.prog 101 #[rwV x v, .int .i64 cols] w fun e w' => e = .returned (.bool (rowB x cols)) ∧ Below w.heap.size w w' := by
 obtain ⟨ua, n, uc, rfl, hn, hr⟩ := h
 obtain ⟨rcs, ru⟩ := x
 dsimp only at hru hs hn hr ⊢
 have hlen : n ≤ 1048576 := by rw [← hn]; exact hs.1
 have HR : Hid (0 < n → ∃ b off, ua = some ⟨b, off, none⟩ ∧ 0 ≤ b ∧ b < w.heap.size ∧ ∀ i, i < n → ∃ cs : List Value, cs.length = 3 ∧ ClN 0 w cs (rcs.getD i Cl.none) ∧ ∀ j, j < 3 → w.cell? ⟨b, off + i * 3 + j, none⟩ = cs[j]?) := hr
 have HS : Hid (∀ i, i < n → SmC (rcs.getD i Cl.none)) := hideP (by rw [← hn]; exact hs.2)
 have HV : Hid (rowB ⟨rcs, ru⟩ cols = (cellsB rcs cols n && decide (spK rcs n ≤ cols))) := hideP (by unfold rowB; rw [if_pos hru, ← hn])
 clear hr hs hn
 subst hru
 go_enter Tryz.func101, Tryz.ntmps101
 go_wp2
 go_loopw [5, 6] (fun s i wr => ∃ (k : Nat) (m : Int), k ≤ n ∧ i = .int .i64 k ∧ s = .int .i64 m ∧ Hid (m = spK rcs k ∧ cellsB rcs cols k = true) ∧ (k : Int) ≤ m ∧ m ≤ 20 * k ∧ Below (w.heap.size + 1) (w.alloc (.cells #[.slice ua n uc, .int .i64 0] 51)) wr)
  (fun _ i _ => n - (intOf i).toNat)
 case atStart => exact ⟨0, 0, by omega, rfl, rfl, hideP ⟨rfl, rfl⟩, by omega, by omega, Below.refl _ _⟩
 case round =>
  obtain ⟨k, m, hk, rfl, rfl, HM, hm0, hm1, hbel⟩ := hrel
  have HB : Hid (Below w.heap.size w wr) := hideP ((below1 w _).trans (hbel.mono (by omega)))
  have hxs : w.heap.size < wr.heap.size := by have := hbel.size; simp at this; omega
  have t0 : wr.cell? ⟨w.heap.size, 0, none⟩ = some (.slice ua n uc) := (hbel.cell (p := ⟨w.heap.size, 0, none⟩) (by simp)).trans (by simp)
  by_cases hkn : k < n
  ·have hki : (k : Int) < (n : Int) := by omega
   obtain ⟨b, off, rfl, hlo, hb, hc⟩ := HR (by omega)
   obtain ⟨cs, hcl, hRel, hcj⟩ := hc k hkn
   have hsk := HS k hkn
   obtain ⟨t, ht⟩ := exq (rcs.getD k Cl.none)
   rw [← ht] at hRel hsk
   have HT : Hid (t = rcs.getD k Cl.none) := ht
   obtain ⟨u, hcs, hu, huN⟩ := hRel
   obtain ⟨va, vn, vc, rfl⟩ : ∃ a n c, u = .slice a n c := by obtain ⟨a, c, rfl⟩ := hu.shape; exact ⟨_, _, _, rfl⟩
   obtain ⟨nH, hnH⟩ := exq ((hpR t.ns 0 0).length)
   have HC : Hid (∀ W : World, Below w.heap.size w W → Calls Tryz.prog 104 #[.slice va vn vc, .int .i64 0, .int .i64 0] W fun e w' => ∃ a c s, e = .returned (packV (.slice a nH c) s) ∧ Below W.heap.size W w') := hideP (fun W hW => by
    refine (specHN 0 0 (hu.below ndStable hW) (huN.abv ⟨hW.size, fun k _ hk => hW.block k hk⟩) hsk.1).mono ?_
    rintro e w' ⟨u, rfl, ho, hb⟩
    obtain ⟨a, c, rfl⟩ := ownG_shape ho
    rw [← hnH]
    exact ⟨a, c, _, rfl, hb⟩)
   have HN : Hid (nH = 0 ↔ hpOk t.ns 0 0 = false) := hideP (by rw [hnH]; exact hpR_none)
   have HF : Hid (cellB t cols = false → rowB ⟨rcs, 0⟩ cols = false) := hideP (fun hf => by
    have h0 : cellsB rcs cols (k + 1) = false := by unfold cellsB; rw [← ht, hf, Bool.and_false]
    rw [HV.out, cellsB_down (show k + 1 ≤ n by omega) h0]
    rfl)
   clear hu huN hsk hnH
   have HQ : Hid (cellB t cols = (decide (1 ≤ t.sp) && decide (t.sp ≤ cols) && decide (0 ≤ t.al) && decide (t.al ≤ 2) && hpOk t.ns 0 0)) := hideP rfl
   obtain ⟨sp, al, ns⟩ := t
   rw [show cs = _ from hcs] at hcj
   dsimp only at hcj HN HQ
   have g0 : wr.cell? ⟨b, off + k * 3, none⟩ = some (.int .i64 sp) := (HB.out.cell (p := ⟨b, off + k * 3, none⟩) hb).trans (hcj 0 (by omega))
   have g1 : wr.cell? ⟨b, off + k * 3 + 1, none⟩ = some (.int .i64 al) := (HB.out.cell (p := ⟨b, off + k * 3 + 1, none⟩) hb).trans (hcj 1 (by omega))
   have g2 : wr.cell? ⟨b, off + k * 3 + 2, none⟩ = some (.slice va vn vc) := (HB.out.cell (p := ⟨b, off + k * 3 + 2, none⟩) hb).trans (hcj 2 (by omega))
   have HBT : Hid (Below (w.heap.size + 1) (w.alloc (.cells #[.slice (some ⟨b, off, none⟩) n uc, .int .i64 0] 51)) wr) := hideP hbel
   clear hc hcj hcl hbel ht hcs
   by_cases e1 : sp < 1
   ·go_wp2
    go_ret
    refine ⟨retB (HF.out ?_).symm, ?_⟩
    ·rw [HQ.out]; simp; omega
    ·have HBo := HB.out
     have HBs := HBo.size
     clear g0 g1 g2
     repeat (first | with_reducible exact HBo | (with_reducible refine Below.setCell ?_ ?_ _; rotate_left; focus (first | (simp; done) | (simp; omega))) | (with_reducible refine Below.alloc ?_ ?_ _; rotate_left; focus (first | exact HBs | (simp; omega))))
   by_cases e2 : cols < sp
   ·go_wp2
    go_ret
    refine ⟨retB (HF.out ?_).symm, ?_⟩
    ·rw [HQ.out]; simp; omega
    ·have HBo := HB.out
     have HBs := HBo.size
     clear g0 g1 g2
     repeat (first | with_reducible exact HBo | (with_reducible refine Below.setCell ?_ ?_ _; rotate_left; focus (first | (simp; done) | (simp; omega))) | (with_reducible refine Below.alloc ?_ ?_ _; rotate_left; focus (first | exact HBs | (simp; omega))))
   by_cases e3 : al < 0
   ·go_wp2
    go_ret
    refine ⟨retB (HF.out ?_).symm, ?_⟩
    ·rw [HQ.out]; simp; omega
    ·have HBo := HB.out
     have HBs := HBo.size
     clear g0 g1 g2
     repeat (first | with_reducible exact HBo | (with_reducible refine Below.setCell ?_ ?_ _; rotate_left; focus (first | (simp; done) | (simp; omega))) | (with_reducible refine Below.alloc ?_ ?_ _; rotate_left; focus (first | exact HBs | (simp; omega))))
   by_cases e4 : 2 < al
   ·go_wp2
    go_ret
    refine ⟨retB (HF.out ?_).symm, ?_⟩
    ·rw [HQ.out]; simp; omega
    ·have HBo := HB.out
     have HBs := HBo.size
     clear g0 g1 g2
     repeat (first | with_reducible exact HBo | (with_reducible refine Below.setCell ?_ ?_ _; rotate_left; focus (first | (simp; done) | (simp; omega))) | (with_reducible refine Below.alloc ?_ ?_ _; rotate_left; focus (first | exact HBs | (simp; omega))))
   by_cases e5 : nH = 0
   ·subst e5
    go_wp2_with fail
    refine (HC.out _ (by have HBo := HB.out; have HBs := HBo.size; repeat (first | with_reducible exact HBo | (with_reducible refine Below.setCell ?_ ?_ _; rotate_left; focus (first | (simp; done) | (simp; omega))) | (with_reducible refine Below.alloc ?_ ?_ _; rotate_left; focus (first | exact HBs | (simp; omega)))))).mono ?_
    rintro e w2 ⟨ra, rc, rs, rfl, hb1⟩
    have B2 : Hid (Below w.heap.size w w2) := hideP (below_more (by have HBo := HB.out; have HBs := HBo.size; repeat (first | with_reducible exact HBo | (with_reducible refine Below.setCell ?_ ?_ _; rotate_left; focus (first | (simp; done) | (simp; omega))) | (with_reducible refine Below.alloc ?_ ?_ _; rotate_left; focus (first | exact HBs | (simp; omega))))) hb1 (by have := HB.out.size; simp; omega))
    clear hb1
    have hfd := fld28 (.slice ra 0 rc) rs w2
    go_wp2
    go_ret
    refine ⟨retB (HF.out ?_).symm, B2.out⟩
    rw [HQ.out, HN.out.1 trivial]; simp
   ·have e6 : ¬ (nH : Int) = 0 := by omega
    have wadd : IntKind.i64.wrap (m + sp) = m + sp := by rw [IntKind.wrap_i64]; omega
    go_wp2_with fail
    refine (HC.out _ (by have HBo := HB.out; have HBs := HBo.size; repeat (first | with_reducible exact HBo | (with_reducible refine Below.setCell ?_ ?_ _; rotate_left; focus (first | (simp; done) | (simp; omega))) | (with_reducible refine Below.alloc ?_ ?_ _; rotate_left; focus (first | exact HBs | (simp; omega)))))).mono ?_
    rintro e w2 ⟨ra, rc, rs, rfl, hb1⟩
    have hc2 : w2.cell? ⟨wr.heap.size, 0, none⟩ = some (.int .i64 sp) := (hb1.cell (p := ⟨wr.heap.size, 0, none⟩) (by simp)).trans (by simp)
    have hx2 : wr.heap.size < w2.heap.size := by have := hb1.size; simp at this; omega
    have B2 : Hid (Below (w.heap.size + 1) (w.alloc (.cells #[.slice (some ⟨b, off, none⟩) n uc, .int .i64 0] 51)) w2) := hideP (below_more (by have HBo := HBT.out; have HBs : w.heap.size + 1 ≤ wr.heap.size := (by have := HBo.size; simpa using this); repeat (first | with_reducible exact HBo | (with_reducible refine Below.setCell ?_ ?_ _; rotate_left; focus (first | (simp; done) | (simp; omega))) | (with_reducible refine Below.alloc ?_ ?_ _; rotate_left; focus (first | exact HBs | (simp; omega))))) hb1 (by have := HBT.out.size; simp at this ⊢; omega))
    clear hb1
    have hfd := fld28 (.slice ra nH rc) rs w2
    go_wp2
    go_roundw
    case rel =>
     refine ⟨k + 1, m + sp, by omega, by go_num, rfl, hideP ⟨?_, ?_⟩, by omega, by omega, B2.out⟩
     ·rw [spK_succ, ← HT.out, HM.out.1]
     ·have h9 : hpOk ns 0 0 = true := by
       cases hk : hpOk ns 0 0 with
       | true => rfl
       | false => exact absurd (HN.out.2 hk) e5
      unfold cellsB
      rw [HM.out.2, ← HT.out, HQ.out, h9]
      simp
      omega
    case measure => simp [intOf]; omega
  ·have hki : ¬ (k : Int) < (n : Int) := by omega
   obtain rfl : k = n := by omega
   clear hbel
   by_cases e7 : m ≤ cols
   ·go_wp2
    go_ret
    refine ⟨retB ?_, HB.out⟩
    rw [HV.out, HM.out.2, ← HM.out.1]
    simp [e7]
   ·go_wp2
    go_ret
    refine ⟨retB ?_, HB.out⟩
    rw [HV.out, HM.out.2, ← HM.out.1]
    simp [e7]
theorem l12RowOk_any (x : Rw) {v : Value} {w : World} (cols : Int) (h : CRowN 0 w v x.cs) (hs : SmW x) (hc0 : 1 ≤ cols) (hc1 : cols ≤ 20) :
 Calls Tryz.prog 101 #[rwV x v, .int .i64 cols] w fun e w' => e = .returned (.bool (rowB x cols)) ∧ Below w.heap.size w w' := by
 by_cases hru : x.ru = 0
 ·exact l12RowOk_cells x cols h hru hs hc0 hc1
 ·exact l12RowOk_rule x cols h hru hs.1
abbrev tbO (t : Tb) (v : Value) : Obj := .cells #[.int .i64 t.co, .int .i64 t.gs, .int .i64 t.gp, .int .i64 t.gpo, .int .i64 t.gm, .int .i64 t.gmo, v] 44
set_option maxRecDepth 20000 in
set_option maxHeartbeats 8000000 in
theorem specTableOk_any (t : Tb) {v : Value} {w : World} (h : RRowN 0 w v t.rs) (hs : SmT t) :
 Calls Tryz.prog 60 #[tbV t v] w fun e w' => e = .returned (.bool (tabB t)) ∧ Below w.heap.size w w' := by
 obtain ⟨ua, n, uc, rfl, hn, hr⟩ := h
 have hlen : n ≤ 1048576 := by rw [← hn]; exact hs.1
 have HR : Hid (0 < n → ∃ b off, ua = some ⟨b, off, none⟩ ∧ 0 ≤ b ∧ b < w.heap.size ∧ ∀ i, i < n → ∃ cs : List Value, cs.length = 2 ∧ RwN 0 w cs (t.rs.getD i Rw.none) ∧ ∀ j, j < 2 → w.cell? ⟨b, off + i * 2 + j, none⟩ = cs[j]?) := hr
 have HS : Hid (∀ i, i < n → SmW (t.rs.getD i Rw.none)) := hideP (by rw [← hn]; exact hs.2)
 have HV : Hid (tabB t = (decide (1 ≤ t.co) && decide (t.co ≤ 20) && glB t.gs t.gp t.gpo t.gm t.gmo && decide (n ≤ 200) && rowsB t.rs t.co n)) := hideP (by unfold tabB headB; rw [← hn])
 have HG : Hid (∀ W, Calls Tryz.prog 100 #[glueV t.gs t.gp t.gpo t.gm t.gmo] W fun e w' => e = .returned (.bool (glB t.gs t.gp t.gpo t.gm t.gmo)) ∧ Below W.heap.size W w') := hideP (fun W => specGlueOk_any _ _ _ _ _ W)
 clear hr hs hn
 obtain ⟨co, gs, gp, gpo, gm, gmo, rs⟩ := t
 dsimp only at HR HS HV HG ⊢
 by_cases e1 : co < 1
 ·go_enter Tryz.func60, Tryz.ntmps60
  go_wp2
  go_ret
  refine ⟨retB ?_, below1 _ _⟩
  rw [HV.out, decide_eq_false (show ¬ 1 ≤ co by omega)]
  simp
 by_cases e2 : 20 < co
 ·go_enter Tryz.func60, Tryz.ntmps60
  go_wp2
  go_ret
  refine ⟨retB ?_, below1 _ _⟩
  rw [HV.out, decide_eq_false (show ¬ co ≤ 20 by omega)]
  simp
 cases e3 : glB gs gp gpo gm gmo with
 | false =>
  rw [e3] at HG HV
  go_enter Tryz.func60, Tryz.ntmps60
  go_wp2_with fail
  refine (HG.out _).mono ?_
  rintro e w1 ⟨rfl, hb1⟩
  have hx1 : w.heap.size < w1.heap.size := by have := hb1.size; simp at this; omega
  have B1 : Hid (Below w.heap.size w w1) := hideP (below_more (below1 _ _) hb1 (by simp))
  obtain ⟨hc1, hf1⟩ := bcell hb1
  simp only [World.size_alloc, World.size_setCell] at hc1 hf1
  clear hb1
  go_wp2
  go_ret
  refine ⟨retB ?_, B1.out⟩
  rw [HV.out]
  simp
 | true =>
  rw [e3] at HG HV
  by_cases e4 : 200 < n
  ·have e5 : (200 : Int) < n := by omega
   go_enter Tryz.func60, Tryz.ntmps60
   go_wp2_with fail
   refine (HG.out _).mono ?_
   rintro e w1 ⟨rfl, hb1⟩
   have hx1 : w.heap.size < w1.heap.size := by have := hb1.size; simp at this; omega
   have B1 : Hid (Below w.heap.size w w1) := hideP (below_more (below1 _ _) hb1 (by simp))
   obtain ⟨hc1, hf1⟩ := bcell hb1
   simp only [World.size_alloc, World.size_setCell] at hc1 hf1
   clear hb1
   go_wp2
   go_ret
   refine ⟨retB ?_, B1.out⟩
   rw [HV.out, decide_eq_false (show ¬ n ≤ 200 by omega)]
   simp
  ·have e5 : ¬ (200 : Int) < n := by omega
   have HV2 : Hid (tabB ⟨co, gs, gp, gpo, gm, gmo, rs⟩ = rowsB rs co n) := hideP (by
    rw [HV.out, decide_eq_true (show 1 ≤ co by omega), decide_eq_true (show co ≤ 20 by omega), decide_eq_true (show n ≤ 200 by omega)]
    simp)
   clear HV
   go_enter Tryz.func60, Tryz.ntmps60
   go_wp2_with fail
   refine (HG.out _).mono ?_
   rintro e w1 ⟨rfl, hb1⟩
   have hx1 : w.heap.size < w1.heap.size := by have := hb1.size; simp at this; omega
   have B1 : Hid (Below (w.heap.size + 1) (w.alloc (tbO ⟨co, gs, gp, gpo, gm, gmo, rs⟩ (.slice ua n uc))) w1) := hideP (hb1.mono (by simp))
   obtain ⟨hc1, hf1⟩ := bcell hb1
   simp only [World.size_alloc, World.size_setCell] at hc1 hf1
   clear hb1
   go_wp2
   clear hc1 hf1 hx1
   go_loopw [3] (fun i wr => ∃ (k : Nat), k ≤ n ∧ i = .int .i64 k ∧ Hid (rowsB rs co k = true) ∧ Below (w.heap.size + 1) (w.alloc (tbO ⟨co, gs, gp, gpo, gm, gmo, rs⟩ (.slice ua n uc))) wr)
    (fun i _ => n - (intOf i).toNat)
   case atStart => exact ⟨0, by omega, rfl, hideP rfl, B1.out⟩
   case round =>
    obtain ⟨k, hk, rfl, HM, hbel⟩ := hrel
    have HB : Hid (Below w.heap.size w wr) := hideP ((below1 w _).trans (hbel.mono (by omega)))
    have hxs : w.heap.size < wr.heap.size := by have := hbel.size; simp at this; omega
    have QT : Hid (∀ x, Below (w.heap.size + 1) (w.alloc (tbO ⟨co, gs, gp, gpo, gm, gmo, rs⟩ (.slice ua n uc))) x → x.cell? ⟨w.heap.size, 0, none⟩ = some (.int .i64 co) ∧ x.cell? ⟨w.heap.size, 6, none⟩ = some (.slice ua n uc)) := hideP (fun x hx => ⟨(hx.cell (p := ⟨w.heap.size, 0, none⟩) (by simp)).trans (by simp), (hx.cell (p := ⟨w.heap.size, 6, none⟩) (by simp)).trans (by simp)⟩)
    have t6 := (QT.out _ hbel).2
    by_cases hkn : k < n
    ·have hki : (k : Int) < (n : Int) := by omega
     obtain ⟨b, off, rfl, hlo, hb, hc⟩ := HR (by omega)
     obtain ⟨cs, hcl, hRel, hcj⟩ := hc k hkn
     have hsk := HS k hkn
     obtain ⟨t, ht⟩ := exq (rs.getD k Rw.none)
     rw [← ht] at hRel hsk
     have HT : Hid (t = rs.getD k Rw.none) := ht
     obtain ⟨u, hcs, hu⟩ := hRel
     obtain ⟨va, vn, vc, rfl⟩ : ∃ a n c, u = .slice a n c := by obtain ⟨a, c, rfl⟩ := hu.shape; exact ⟨_, _, _, rfl⟩
     obtain ⟨R, hR⟩ := exq (rowB t co)
     have HC : Hid (∀ W : World, Below w.heap.size w W → Calls Tryz.prog 101 #[rwV t (.slice va vn vc), .int .i64 co] W fun e w' => e = .returned (.bool R) ∧ Below W.heap.size W w') := hideP (fun W hW => by rw [hR]; exact l12RowOk_any t co (hu.below clNStable hW) hsk (by omega) (by omega))
     have HR9 := hideP hR
     clear hu hsk hR
     obtain ⟨rcs, ru⟩ := t
     rw [show cs = _ from hcs] at hcj
     dsimp only at hcj
     simp only [rwV] at HC
     have QA : Hid (∀ x, Below (w.heap.size + 1) (w.alloc (tbO ⟨co, gs, gp, gpo, gm, gmo, rs⟩ (.slice (some ⟨b, off, none⟩) n uc))) x → x.cell? ⟨b, off + k * 2, none⟩ = some (.slice va vn vc) ∧ x.cell? ⟨b, off + k * 2 + 1, none⟩ = some (.int .i64 ru)) := hideP (fun x hx => by
      have h2 : Below w.heap.size w x := (below1 w _).trans (hx.mono (by omega))
      exact ⟨(h2.cell (p := ⟨b, off + k * 2 + 0, none⟩) hb).trans (hcj 0 (by omega)), (h2.cell (p := ⟨b, off + k * 2 + 1, none⟩) hb).trans (hcj 1 (by omega))⟩)
     have HBT : Hid (Below (w.heap.size + 1) (w.alloc (tbO ⟨co, gs, gp, gpo, gm, gmo, rs⟩ (.slice (some ⟨b, off, none⟩) n uc))) wr) := hideP hbel
     have HBD : Hid (Below (w.heap.size + 1) (w.alloc (tbO ⟨co, gs, gp, gpo, gm, gmo, rs⟩ (.slice (some ⟨b, off, none⟩) n uc))) wr.drew) := hideP (Below.drew hbel)
     have HB2 : Hid (Below w.heap.size w wr.drew) := hideP (Below.drew HB.out)
     have hxd : w.heap.size + 1 ≤ wr.drew.heap.size := hxs
     have HSZ := hideP hxd
     clear hc hcj hcl hbel ht hcs hxd
     go_wp2_with fail
     go_region_held3 (fun x => (x.cell? ⟨b, off + k * 2, none⟩ = some (.slice va vn vc) ∧ x.cell? ⟨b, off + k * 2 + 1, none⟩ = some (.int .i64 ru)) ∧ (x.cell? ⟨w.heap.size, 0, none⟩ = some (.int .i64 co) ∧ x.cell? ⟨w.heap.size, 6, none⟩ = some (.slice (some ⟨b, off, none⟩) n uc))) (first | exact ⟨QA.out _ HBD.out, QT.out _ HBD.out⟩ | exact ⟨QA.out _ ‹Hid (Below (w.heap.size + 1) _ w2)›, QT.out _ ‹Hid (Below (w.heap.size + 1) _ w2)›⟩) ((go_at_call 101; refine (HC.out _ HB2.out).mono ?_; rintro e w2 ⟨rfl, hb1⟩; have hb2 : Hid (Below (w.heap.size + 1) (w.alloc (tbO ⟨co, gs, gp, gpo, gm, gmo, rs⟩ (.slice (some ⟨b, off, none⟩) n uc))) w2) := hideP (below_more HBD.out hb1 HSZ.out); clear hb1))
     all_goals
      cases R with
      | false =>
       go_wp2
       go_ret
       refine ⟨retB ?_, (below1 w _).trans (Below.mono ‹Hid (Below (w.heap.size + 1) _ w2)› (by omega))⟩
       have h0 : rowsB rs co (k + 1) = false := by unfold rowsB; rw [← HT.out, ← HR9.out, Bool.and_false]
       rw [HV2.out, rowsB_down (show k + 1 ≤ n by omega) h0]
      | true =>
       go_wp2
       go_roundw
       case rel =>
        refine ⟨k + 1, by omega, by go_num, hideP ?_, ‹Hid (Below (w.heap.size + 1) _ w2)›⟩
        unfold rowsB
        rw [HM.out, ← HT.out, ← HR9.out]
        rfl
       case measure => simp [intOf]; omega
    ·have hki : ¬ (k : Int) < (n : Int) := by omega
     obtain rfl : k = n := by omega
     clear hbel
     go_wp2
     go_ret
     refine ⟨retB ?_, HB.out⟩
     rw [HV2.out, HM.out]
end Go.Proofs.YtojoehdmjkgnnaaGreat
