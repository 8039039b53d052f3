/-
  The walks of impl.PlainCats and spec.PlainCats: the plain table of categories.
-/
import Derived.Test.YtkiiiahljlkjnaaPla
namespace Go.Proofs.Ytkiiiahljlkjnaa
open Go.RowKit
set_option linter.unusedVariables false
set_option linter.unusedSimpArgs false

/-- The plain table. -/
def PL : List Int := (List.range 256).map (fun j : Nat => catOf (j : Int))
theorem PL_length : PL.length = 256 := by simp [PL]
theorem PL_at {j : Nat} (h : j < 256) : PL.getD j 0 = catOf j := by simp [PL, List.getD, List.getElem?_map, List.getElem?_range h]

theorem wrap8 {k : Nat} (h : k < 256) : IntKind.u8.wrap (k : Int) = k := by rw [IntKind.wrap_u8]; omega

set_option maxRecDepth 20000 in
set_option maxHeartbeats 1000000 in
theorem implPlainCats_any (w : World) : Calls Try.prog 10 #[] w fun e w' => e = .returned (.slice (some ⟨w.heap.size, 0, none⟩) 256 256) ∧ Blk w' w.heap.size PL ∧ Below w.heap.size w w' := by
  obtain ⟨hv, hi⟩ := zero_of_info Try.info61
  rw [cellsI_zero] at hv
  obtain ⟨os, ho⟩ : ∃ os : List Int, os = List.replicate 256 0 := ⟨_, rfl⟩
  rw [← ho] at hv
  have hol : os.length = 256 := by rw [ho, List.length_replicate]
  have HB : Hid (os.length = 256 ∧ Blk (w.alloc (Obj.cells (cellsI os) 61)) w.heap.size os ∧ Below w.heap.size w (w.alloc (Obj.cells (cellsI os) 61))) := ⟨hol, Blk.new w os, (Below.refl _ _).alloc (Nat.le_refl _) _⟩
  clear hol ho hi
  go_enter Try.func10, Try.ntmps10
  go_wp2
  go_loopw [3] (fun s wr => ∃ (k : Nat) (gs : List Int), k ≤ 256 ∧ s = .int .i64 k ∧ gs.length = 256 ∧ (∀ j, j < k → gs.getD j 0 = catOf j) ∧ Blk wr w.heap.size gs ∧ Below w.heap.size w wr)
    (fun s _ => 256 - (intOf s).toNat)
  case atStart => exact ⟨0, os, by omega, rfl, HB.1, fun j hj => by omega, HB.2.1, HB.2.2⟩
  case round =>
    obtain ⟨k, gs, hk, rfl, hgl, hj, h0, hbel⟩ := hrel
    by_cases hlt : k < 256
    · have hki : (k : Int) < 256 := by omega
      have hwr := wrap8 hlt
      have hc1 := h0.cell k (by omega)
      have hf1 := h0.free k
      have HJ : Hid (∀ j, j < k → gs.getD j 0 = catOf j) := hj
      have HR : Hid (Blk wr w.heap.size gs ∧ Below w.heap.size w wr) := ⟨h0, hbel⟩
      clear hj h0 hbel
      go_wp2_with (go_at_call 30; refine (plainCat_any _ _).mono ?_; rintro e w' ⟨rfl, rfl⟩)
      go_roundw
      case rel =>
        refine ⟨k + 1, gs.set k (catOf k), by omega, by go_num, by simp [hgl], fun j hj => ?_, HR.1.set k (catOf k), HR.2.setCell (by simp) _⟩
        by_cases hjk : j = k
        · subst hjk; simp [List.getD, hgl, hlt]
        · refine Eq.trans ?_ (HJ j (by omega)); simp [List.getD, List.getElem?_set, Ne.symm hjk]
      case measure => simp [intOf]; omega
    · have hki : ¬ (k : Int) < 256 := by omega
      have hgs : gs = PL := getD_ext (by rw [hgl, PL_length]) fun j hj' => by rw [hj j (by omega), PL_at (by omega)]
      subst hgs
      have HR : Hid (Blk wr w.heap.size PL ∧ Below w.heap.size w wr) := ⟨h0, hbel⟩
      clear hj h0 hbel
      go_wp2
      go_ret
      exact ⟨rfl, HR⟩

/-- The first k numbers of the specification's loop. -/
def L5 (k : Nat) : List Int := (List.range k).map (fun j : Nat => if letB (j : Int) then 4 else 5)
theorem L5_succ (k : Nat) : L5 (k + 1) = L5 k ++ [if letB (k : Int) then 4 else 5] := by simp [L5, List.range_succ]
theorem L5_length (k : Nat) : (L5 k).length = k := by simp [L5]

theorem below_append {w wr w1 : World} {v : Value} {n : Nat} {xs : List Value} {o : Obj} (hb : Below w.heap.size w wr) (hown : wr.ownsRow w.heap.size 2 1 v n xs) (hg : (wr.alloc o).grownBy w1 v.ownBlock) : Below w.heap.size w w1 := by
  refine Below.grown (hb.alloc hb.size o) hg (by have := hb.size; simp; omega) fun k hk => ?_
  rcases hown.2 with ⟨rfl, _⟩ | ⟨g, cap, cur, rfl, hg', _⟩
  · simp [Value.ownBlock] at hk
  · simp [Value.ownBlock] at hk; omega

set_option maxRecDepth 20000 in
set_option maxHeartbeats 2000000 in
theorem specPlainCats_any (w : World) : Calls Try.prog 38 #[] w fun e w' => ∃ g cap, e = .returned (.slice (some ⟨g, 0, none⟩) 256 cap) ∧ w'.ownsRow w.heap.size 2 1 (.slice (some ⟨g, 0, none⟩) 256 cap) 256 (PL.map (Value.int .i64)) ∧ Below w.heap.size w w' := by
  obtain ⟨i0, hi, hz0, hz1, hz2⟩ := info_parts Try.info2
  go_enter Try.func38, Try.ntmps38
  go_wp2
  have HI : Hid (i0.bytes = 8) := hz2
  clear hz2
  have HB : Hid ((w.alloc (Obj.cells #[] 2)).ownsRow w.heap.size 2 1 (.slice (some ⟨w.heap.size, 0, none⟩) 0 0) 0 ((L5 0).map (Value.int .i64)) ∧ Below w.heap.size w (w.alloc (Obj.cells #[] 2))) :=
    ⟨World.ownsRow_lit w #[] 0 (Nat.le_refl _) (by decide) rfl, (Below.refl _ _).alloc (Nat.le_refl _) _⟩
  go_loopw [1, 2] (fun v s wr => ∃ k : Nat, k ≤ 256 ∧ s = .int .i64 k ∧ wr.ownsRow w.heap.size 2 1 v k ((L5 k).map (Value.int .i64)) ∧ Below w.heap.size w wr)
    (fun _ s _ => 256 - (intOf s).toNat)
  case atStart => exact ⟨0, by omega, rfl, HB.1, HB.2⟩
  case round =>
    obtain ⟨k, hk, rfl, hown, hbel⟩ := hrel
    by_cases hlt : k < 256
    · have hki : (k : Int) < 256 := by omega
      have hwr := wrap8 hlt
      obtain ⟨lb, hlb⟩ : ∃ lb, lb = letB (k : Int) := ⟨_, rfl⟩
      have hcall : ∀ w : World, Calls Try.prog 51 #[.int .u8 (k : Int)] w fun e w' => e = .returned (.bool lb) ∧ w' = w := by rw [hlb]; exact specLetter_any k
      have HL : Hid (lb = letB (k : Int)) := hlb
      clear hlb
      have hgr : w.heap.size ≤ wr.heap.size := hbel.size
      have HBE : Hid (Below w.heap.size w wr) := hbel
      clear hbel
      cases lb
      · go_wp2_with (first
          | (go_at_call 51; refine (hcall _).mono ?_; rintro e w' ⟨rfl, hw⟩; have hw2 := hw.symm; clear hw; subst hw2)
          | (at_builtin; refine wpList_append_own _ rfl _ _ 24 rfl w.heap.size 2 i0 (.int .i64 0) 1 8 Try.underlying24 hi hz0 hz1 HI rfl (by decide) _ _ _ rfl (hown.alloc _) ⟨wr.heap.size, 0, none⟩ 1 1 [.int .i64 5] rfl rfl (by intro j u hj; match j, hj with | 0, hj => simp at hj; subst hj; simp [Addr.add]) (by intro u hu; simp at hu; subst hu; rfl) (by unfold maxLen; omega) (by omega) (by simp; omega) ?_; intro v' w1 hown' hgrow hnil))
        have HR : Hid (w1.ownsRow w.heap.size 2 1 v' (k + 1) ((L5 (k + 1)).map (Value.int .i64)) ∧ Below w.heap.size w w1) := by
          refine ⟨?_, ?_⟩
          · rw [L5_succ, ← show _ = letB (k : Int) from HL]
            simpa using hown'
          · exact below_append HBE hown hgrow
        clear hown' hgrow hnil hown
        go_wp2
        go_roundw
        case rel => exact ⟨k + 1, by omega, by go_num, HR.1, HR.2⟩
        case measure => simp [intOf]; omega
      · go_wp2_with (first
          | (go_at_call 51; refine (hcall _).mono ?_; rintro e w' ⟨rfl, hw⟩; have hw2 := hw.symm; clear hw; subst hw2)
          | (at_builtin; refine wpList_append_own _ rfl _ _ 24 rfl w.heap.size 2 i0 (.int .i64 0) 1 8 Try.underlying24 hi hz0 hz1 HI rfl (by decide) _ _ _ rfl (hown.alloc _) ⟨wr.heap.size, 0, none⟩ 1 1 [.int .i64 4] rfl rfl (by intro j u hj; match j, hj with | 0, hj => simp at hj; subst hj; simp [Addr.add]) (by intro u hu; simp at hu; subst hu; rfl) (by unfold maxLen; omega) (by omega) (by simp; omega) ?_; intro v' w1 hown' hgrow hnil))
        have HR : Hid (w1.ownsRow w.heap.size 2 1 v' (k + 1) ((L5 (k + 1)).map (Value.int .i64)) ∧ Below w.heap.size w w1) := by
          refine ⟨?_, ?_⟩
          · rw [L5_succ, ← show _ = letB (k : Int) from HL]
            simpa using hown'
          · exact below_append HBE hown hgrow
        clear hown' hgrow hnil hown
        go_wp2
        go_roundw
        case rel => exact ⟨k + 1, by omega, by go_num, HR.1, HR.2⟩
        case measure => simp [intOf]; omega
    · have hki : ¬ (k : Int) < 256 := by omega
      obtain rfl : k = 256 := by omega
      obtain ⟨g, cap, rfl⟩ : ∃ g cap, u1 = .slice (some ⟨g, 0, none⟩) 256 cap := by
        rcases hown.2 with ⟨_, h0⟩ | ⟨g, cap, cur, h, _⟩
        · omega
        · exact ⟨g, cap, h⟩
      have hgb : w.heap.size ≤ g := by
        rcases hown.2 with ⟨h, _⟩ | ⟨g', cap', cur, h, hb, _⟩
        · simp at h
        · simp at h; omega
      have hfz : ∀ j, wr.frozen? ⟨g, j, none⟩ = false := fun j => World.ownsRow.frozenAt hown j
      have hc : ∀ j, j < 256 → ∃ x : Int, wr.cell? ⟨g, j, none⟩ = some (.int .i64 x) := fun j hj => by
        refine ⟨(L5 256).getD j 0, ?_⟩
        rw [World.ownsRow.cellAt hown j (by omega)]
        simp [List.getElem?_map, List.getD, List.getElem?_eq_getElem (show j < (L5 256).length by rw [L5_length]; exact hj)]
      obtain ⟨x92, hx92⟩ := hc 92 (by omega)
      obtain ⟨x123, hx123⟩ := hc 123 (by omega)
      obtain ⟨x125, hx125⟩ := hc 125 (by omega)
      obtain ⟨x32, hx32⟩ := hc 32 (by omega)
      obtain ⟨x9, hx9⟩ := hc 9 (by omega)
      obtain ⟨x10, hx10⟩ := hc 10 (by omega)
      obtain ⟨x35, hx35⟩ := hc 35 (by omega)
      obtain ⟨x37, hx37⟩ := hc 37 (by omega)
      obtain ⟨x0, hx0⟩ := hc 0 (by omega)
      obtain ⟨x36, hx36⟩ := hc 36 (by omega)
      obtain ⟨x94, hx94⟩ := hc 94 (by omega)
      obtain ⟨x95, hx95⟩ := hc 95 (by omega)
      obtain ⟨x38, hx38⟩ := hc 38 (by omega)
      obtain ⟨x126, hx126⟩ := hc 126 (by omega)
      obtain ⟨x127, hx127⟩ := hc 127 (by omega)
      have s0 := (World.ownsRow.stored hown 92 (.int .i64 0)).1
      have s1 := (World.ownsRow.stored s0 123 (.int .i64 1)).1
      have s2 := (World.ownsRow.stored s1 125 (.int .i64 2)).1
      have s3 := (World.ownsRow.stored s2 32 (.int .i64 3)).1
      have s4 := (World.ownsRow.stored s3 9 (.int .i64 3)).1
      have s5 := (World.ownsRow.stored s4 10 (.int .i64 6)).1
      have s6 := (World.ownsRow.stored s5 35 (.int .i64 7)).1
      have s7 := (World.ownsRow.stored s6 37 (.int .i64 8)).1
      have s8 := (World.ownsRow.stored s7 0 (.int .i64 9)).1
      have s9 := (World.ownsRow.stored s8 36 (.int .i64 10)).1
      have s10 := (World.ownsRow.stored s9 94 (.int .i64 11)).1
      have s11 := (World.ownsRow.stored s10 95 (.int .i64 12)).1
      have s12 := (World.ownsRow.stored s11 38 (.int .i64 13)).1
      have s13 := (World.ownsRow.stored s12 126 (.int .i64 14)).1
      have s14 := (World.ownsRow.stored s13 127 (.int .i64 15)).1
      have hlist : ((((((((((((((((L5 256).set 92 0).set 123 1).set 125 2).set 32 3).set 9 3).set 10 6).set 35 7).set 37 8).set 0 9).set 36 10).set 94 11).set 95 12).set 38 13).set 126 14).set 127 15) = PL := by kernel_rfl
      have HR : Hid ((((((((((((((((wr.setCell ⟨g, 92, none⟩ (.int .i64 0)).setCell ⟨g, 123, none⟩ (.int .i64 1)).setCell ⟨g, 125, none⟩ (.int .i64 2)).setCell ⟨g, 32, none⟩ (.int .i64 3)).setCell ⟨g, 9, none⟩ (.int .i64 3)).setCell ⟨g, 10, none⟩ (.int .i64 6)).setCell ⟨g, 35, none⟩ (.int .i64 7)).setCell ⟨g, 37, none⟩ (.int .i64 8)).setCell ⟨g, 0, none⟩ (.int .i64 9)).setCell ⟨g, 36, none⟩ (.int .i64 10)).setCell ⟨g, 94, none⟩ (.int .i64 11)).setCell ⟨g, 95, none⟩ (.int .i64 12)).setCell ⟨g, 38, none⟩ (.int .i64 13)).setCell ⟨g, 126, none⟩ (.int .i64 14)).setCell ⟨g, 127, none⟩ (.int .i64 15)).ownsRow w.heap.size 2 1 (.slice (some ⟨g, 0, none⟩) 256 cap) 256 (PL.map (Value.int .i64)) ∧ Below w.heap.size w (((((((((((((((wr.setCell ⟨g, 92, none⟩ (.int .i64 0)).setCell ⟨g, 123, none⟩ (.int .i64 1)).setCell ⟨g, 125, none⟩ (.int .i64 2)).setCell ⟨g, 32, none⟩ (.int .i64 3)).setCell ⟨g, 9, none⟩ (.int .i64 3)).setCell ⟨g, 10, none⟩ (.int .i64 6)).setCell ⟨g, 35, none⟩ (.int .i64 7)).setCell ⟨g, 37, none⟩ (.int .i64 8)).setCell ⟨g, 0, none⟩ (.int .i64 9)).setCell ⟨g, 36, none⟩ (.int .i64 10)).setCell ⟨g, 94, none⟩ (.int .i64 11)).setCell ⟨g, 95, none⟩ (.int .i64 12)).setCell ⟨g, 38, none⟩ (.int .i64 13)).setCell ⟨g, 126, none⟩ (.int .i64 14)).setCell ⟨g, 127, none⟩ (.int .i64 15))) := by
        refine ⟨?_, (((((((((((((((hbel.setCell (p := ⟨g, 92, none⟩) hgb (.int .i64 0)).setCell (p := ⟨g, 123, none⟩) hgb (.int .i64 1)).setCell (p := ⟨g, 125, none⟩) hgb (.int .i64 2)).setCell (p := ⟨g, 32, none⟩) hgb (.int .i64 3)).setCell (p := ⟨g, 9, none⟩) hgb (.int .i64 3)).setCell (p := ⟨g, 10, none⟩) hgb (.int .i64 6)).setCell (p := ⟨g, 35, none⟩) hgb (.int .i64 7)).setCell (p := ⟨g, 37, none⟩) hgb (.int .i64 8)).setCell (p := ⟨g, 0, none⟩) hgb (.int .i64 9)).setCell (p := ⟨g, 36, none⟩) hgb (.int .i64 10)).setCell (p := ⟨g, 94, none⟩) hgb (.int .i64 11)).setCell (p := ⟨g, 95, none⟩) hgb (.int .i64 12)).setCell (p := ⟨g, 38, none⟩) hgb (.int .i64 13)).setCell (p := ⟨g, 126, none⟩) hgb (.int .i64 14)).setCell (p := ⟨g, 127, none⟩) hgb (.int .i64 15))⟩
        rw [← hlist]
        simpa only [List.map_set] using s14
      clear hown hbel hc hlist hgb s0 s1 s2 s3 s4 s5 s6 s7 s8 s9 s10 s11 s12 s13 s14
      go_wp2
      go_ret
      exact ⟨g, cap, rfl, HR⟩
end Go.Proofs.Ytkiiiahljlkjnaa
