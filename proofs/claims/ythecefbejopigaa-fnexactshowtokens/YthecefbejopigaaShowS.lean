/-
  The walk of spec.ShowTokens.
-/
import Derived.Test.YthecefbejopigaaShow
import Derived.Deep.DeepCutAuto
import Derived.Deep.CutRange
import Derived.Deep.RegionLaw
namespace Go.Proofs.Ythecefbejopigaa
open Go.RowKit
set_option linter.unusedVariables false
set_option linter.unusedSimpArgs false

theorem Try.info5 : (Try.prog.info? 5).map (fun i => (i.zero, i.size, i.bytes)) = some (some (.int .u8 0), 1, 1) := by kernel_rfl

/-- What the specification's loop holds. -/
def Out (w wr : World) (v : Value) (l : List UInt8) : Prop := wr.ownsRow w.heap.size 5 1 v l.length (Lib.byteCells l) ∧ Below w.heap.size w wr

theorem owns_below {w w' : World} {base e size n : Nat} {v : Value} {xs : List Value} (h : w.ownsRow base e size v n xs) (hb : Below w.heap.size w w') : w'.ownsRow base e size v n xs := by
  refine ⟨h.1, ?_⟩
  rcases h.2 with h' | ⟨g, cap, cur, hv, hg0, hg, hr⟩
  · exact .inl h'
  · exact .inr ⟨g, cap, cur, hv, hg0, (hb.block g (Array.getElem?_eq_some_iff.1 hg).1).trans hg, hr⟩
theorem owns_lt {w : World} {base e size n g : Nat} {v : Value} {xs : List Value} (h : w.ownsRow base e size v n xs) (hg : v.ownBlock = some g) : base ≤ g ∧ g < w.heap.size := by
  rcases h.2 with ⟨rfl, _⟩ | ⟨g', cap, cur, rfl, hg0, hg', hr⟩
  · cases hg
  · simp [Value.ownBlock] at hg
    subst hg
    exact ⟨hg0, (Array.getElem?_eq_some_iff.1 hg').1⟩

theorem Out.below {w wr w2 : World} {v : Value} {l : List UInt8} (h : Out w wr v l) (hb : Below wr.heap.size wr w2) : Out w w2 v l := ⟨owns_below h.1 hb, h.2.trans (hb.mono h.2.size)⟩
theorem Out.alloc {w wr : World} {v : Value} {l : List UInt8} (h : Out w wr v l) (o : Obj) : Out w (wr.alloc o) v l := ⟨h.1.alloc o, h.2.alloc h.2.size o⟩
theorem Out.drew {w wr : World} {v : Value} {l : List UInt8} (h : Out w wr v l) : Out w wr.drew v l := ⟨h.1.drew, h.2.drew⟩
theorem Out.grown {w wr w1 : World} {v v' : Value} {l l2 : List UInt8} (h : Out w wr v l) (ho : w1.ownsRow w.heap.size 5 1 v' (l.length + l2.length) (Lib.byteCells l ++ Lib.byteCells l2)) (hg : wr.grownBy w1 v.ownBlock) : Out w w1 v' (l ++ l2) := by
  refine ⟨by rw [List.length_append, Lib.byteCells_append]; exact ho, Below.grown h.2 hg h.2.size fun k hk => (owns_lt h.1 hk).1⟩
/-- A block that is not the row's own stands behind an append. -/
theorem grown_cell {wr w1 : World} {v : Value} {T o : Nat} {x : Value} (hg : wr.grownBy w1 v.ownBlock) (hc : wr.cell? ⟨T, o, none⟩ = some x) (hne : ∀ g, v.ownBlock = some g → g ≠ T) : w1.cell? ⟨T, o, none⟩ = some x := by
  have hb := World.block_lt_of_cell? wr _ hc
  rw [← hc]
  refine World.cell?_of_block (w := wr) (hg.block T hb ?_)
  intro he
  exact hne T he.symm rfl

/-- A whole block that is not the row's own stands behind an append. -/
theorem grown_block {wr w1 : World} {v : Value} {T : Nat} {x : Obj} (hg : wr.grownBy w1 v.ownBlock) (hc : wr.heap[T]? = some x) (hne : ∀ g, v.ownBlock = some g → g ≠ T) : w1.heap[T]? = some x :=
  (hg.block T (Array.getElem?_eq_some_iff.1 hc).1 (fun he => hne T he.symm rfl)).trans hc
/-- A row of bytes is no token's block. -/
theorem apart33 {w : World} {base n T : Nat} {v : Value} {xs : List Value} {c : Array Value} {fr : Nat × Nat} (h : w.ownsRow base 5 1 v n xs) (hT : w.heap[T]? = some (.cells c 33 fr)) : ∀ g, v.ownBlock = some g → g ≠ T := by
  intro g hg he
  subst he
  rcases h.2 with ⟨rfl, _⟩ | ⟨g', cap, cur, rfl, _, hg', _⟩
  · cases hg
  · simp [Value.ownBlock] at hg
    subst hg
    rw [hg'] at hT
    simp at hT
theorem blockA {w : World} {T : Nat} {x : Obj} (h : w.heap[T]? = some x) (o : Obj) : (w.alloc o).heap[T]? = some x := (Below.heap_alloc w o T (Array.getElem?_eq_some_iff.1 h).1).trans h
theorem blockD {w : World} {T : Nat} {x : Obj} (h : w.heap[T]? = some x) : w.drew.heap[T]? = some x := h
theorem cellA {w : World} {T o : Nat} {x : Value} (h : w.cell? ⟨T, o, none⟩ = some x) (ob : Obj) : (w.alloc ob).cell? ⟨T, o, none⟩ = some x := (World.cell?_alloc_lt _ _ _ (World.block_lt_of_cell? w _ h)).trans h
theorem cellD {w : World} {T o : Nat} {x : Value} (h : w.cell? ⟨T, o, none⟩ = some x) : w.drew.cell? ⟨T, o, none⟩ = some x := h
theorem add0 (g j : Nat) : (⟨g, 0, none⟩ : Addr).add j = ⟨g, j, none⟩ := by unfold Addr.add; split <;> simp_all
/-- The bytes of a text that were made a slice. -/
theorem bytes_at {W : World} {g : Nat} {s : ByteArray} {cap : Nat} {fr : Nat × Nat} (h : W.heap[g]? = some (.cells (bytesRow s cap) 5 fr)) (j : Nat) (u : Value) (hj : (Lib.strCells s)[j]? = some u) : W.cell? ((⟨g, 0, none⟩ : Addr).add j) = some u := by
  rw [add0, cell_of_row W g j _ 5 _ h]
  have hjl : j < s.data.size := by
    have := (List.getElem?_eq_some_iff.1 hj).1
    rw [Lib.strCells_length] at this
    exact this
  rw [bytesRow_at s cap j hjl]
  simp only [Lib.strCells, List.getElem?_map, Array.getElem?_toList, Array.getElem?_eq_getElem hjl, Option.map_some] at hj
  exact hj

theorem out_name {w W w1 : World} {v v' : Value} {l : List UInt8} {s : ByteArray} (h : Out w W v (l ++ [92])) (ho : w1.ownsRow w.heap.size 5 1 v' (l.length + 1 + s.size) (Lib.byteCells l ++ [.int .u8 92] ++ Lib.strCells s)) (hg : W.grownBy w1 v.ownBlock) : Out w w1 v' (l ++ ([92] ++ s.data.toList)) := by
  rw [← List.append_assoc]
  refine Out.grown h ?_ hg
  have e : s.data.toList.length = s.size := rfl
  rw [e, Lib.byteCells_append, ← Lib.strCells_eq, List.length_append]
  exact ho

theorem show_name {t : Tk} (hc : t.c = 0) (hl : lastB t.s = false) : showT t = [92] ++ t.s.data.toList := by simp [showT, hc, hl]
theorem show_name' {t : Tk} (hc : t.c = 0) (hl : lastB t.s = true) : showT t = ([92] ++ t.s.data.toList) ++ [32] := by simp [showT, hc, hl]
theorem last_none {s : ByteArray} (h : s.size = 0) : lastB s = false := by
  have : s.data.toList = [] := by apply List.eq_nil_of_length_eq_zero; exact h
  simp [lastB, this]
theorem last_some {s : ByteArray} (h : s.size - 1 < s.size) : lastB s = letB ((s[s.size - 1]'h).toNat : Int) := by
  have e : s.data.toList.getLast? = some (s[s.size - 1]'h) := by
    rw [List.getLast?_eq_getElem?]
    have hl : s.data.toList.length = s.size := rfl
    rw [hl]
    simp only [Array.getElem?_toList]
    exact Array.getElem?_eq_getElem h
  simp [lastB, e]

theorem slot_bounds {c h : Int} {s : ByteArray} (hk : true = tokB c h s) (hc : c = 16) : 1 ≤ h ∧ h ≤ 9 := by
  subst hc
  cases hs : s.toList.isEmpty
  · rw [tokB_full (by omega) hs] at hk; cases hk
  · rw [tokB_slot hs] at hk; exact of_decide_eq_true hk.symm
theorem char_bounds {c h : Int} {s : ByteArray} (hk : true = tokB c h s) (hc : ¬ c = 0) (hc' : ¬ c = 16) : 0 ≤ h ∧ h ≤ 255 := by
  cases hs : s.toList.isEmpty
  · rw [tokB_full hc hs] at hk; cases hk
  · by_cases hn : c = 6 ∨ c = 8 ∨ c = 9 ∨ c = 15
    · rw [tokB_none hn] at hk; cases hk
    · rw [tokB_else hs hc hc' hn] at hk
      have := of_decide_eq_true hk.symm
      exact ⟨this.2.2.1, this.2.2.2⟩
theorem name_bounds {c h : Int} {s : ByteArray} (hk : true = tokB c h s) (hc : c = 0) : s.size ≤ 40 := by
  rw [tokB_name hc] at hk
  exact (of_decide_eq_true hk.symm).2
theorem tok_step {ts : List Tk} {k j : Nat} {t : Tk} (HK : ∀ j, j < k → tokB (ts.getD j Tk.none).c (ts.getD j Tk.none).h (ts.getD j Tk.none).s = true) (ht : t = ts.getD k Tk.none) (hk : true = tokB t.c t.h t.s) (hj : j < k + 1) :
    tokB (ts.getD j Tk.none).c (ts.getD j Tk.none).h (ts.getD j Tk.none).s = true := by
  by_cases hjk : j = k
  · subst hjk; rw [← ht]; exact hk.symm
  · exact HK j (by omega)

set_option maxRecDepth 20000 in
set_option maxHeartbeats 4000000 in
theorem specShow_any {v : Value} {ts : List Tk} {w : World} (h : TRow w v ts) (hwt : weight ts ≤ 1048576) :
    Calls Try.prog 30 #[v] w fun e w' => e = .returned (.string ⟨(showAll ts).toArray⟩) ∧ Below w.heap.size w w' := by
  obtain ⟨ao, n, cap, rfl, hl, hr⟩ := h
  have hn1 : n ≤ 1048576 := by unfold weight at hwt; omega
  by_cases hbig : 20000 < n
  · have hbi : (20000 : Int) < (n : Int) := by omega
    go_enter Try.func30, Try.ntmps30
    go_wp2
    go_ret
    refine ⟨?_, Below.refl _ _⟩
    rw [okAll_long (by omega)]
    rfl
  · have hbi : ¬ (20000 : Int) < (n : Int) := by omega
    have HR : Hid (0 < n → ∃ b off, ao = some ⟨b, off, none⟩ ∧ b < w.heap.size ∧ ∀ i, i < n →
      w.cell? ⟨b, off + i * 3, none⟩ = some (.int .i64 (ts.getD i Tk.none).c) ∧ w.cell? ⟨b, off + i * 3 + 1, none⟩ = some (.int .i64 (ts.getD i Tk.none).h) ∧ w.cell? ⟨b, off + i * 3 + 2, none⟩ = some (.string (ts.getD i Tk.none).s)) := hr
    have HL : Hid (ts.length = n) := hl
    have HW : Hid (weight ts ≤ 1048576) := hwt
    clear hr hl hwt
    obtain ⟨i0, hi, hz0, hz1, hz2⟩ := info_parts Try.info5
    have HI : Hid (i0.bytes = 1) := hz2
    clear hz2
    go_enter Try.func30, Try.ntmps30
    go_wp2
    have HB : Hid (Out w (w.alloc (Obj.cells #[] 5)) (.slice (some ⟨w.heap.size, 0, none⟩) 0 0) []) :=
      ⟨World.ownsRow_lit w #[] 0 (Nat.le_refl _) (by decide) rfl, (Below.refl _ _).alloc (Nat.le_refl _) _⟩
    go_loopw [3, 4] (fun s3 s4 wr => ∃ k : Nat, k ≤ n ∧ s4 = .int .i64 k ∧ (∀ j, j < k → tokB (ts.getD j Tk.none).c (ts.getD j Tk.none).h (ts.getD j Tk.none).s = true) ∧ Out w wr s3 ((ts.take k).flatMap showT) ∧ s3 ≠ .slice none 0 0)
      (fun _ s _ => n - (intOf s).toNat)
    case atStart => exact ⟨0, by omega, rfl, fun j hj => by omega, HB, by simp⟩
    case round =>
      obtain ⟨k, hk, rfl, hok, hout, hnn⟩ := hrel
      have HNN : Hid (u3 ≠ .slice none 0 0) := hnn
      clear hnn
      have HO : Hid (Out w wr u3 ((ts.take k).flatMap showT)) := hout
      have HK : Hid (∀ j, j < k → tokB (ts.getD j Tk.none).c (ts.getD j Tk.none).h (ts.getD j Tk.none).s = true) := hok
      clear hout hok
      by_cases hkn : k < n
      · have hki : (k : Int) < (n : Int) := by omega
        obtain ⟨b, off, rfl, hb, hc⟩ := HR (by omega)
        obtain ⟨t, ht⟩ : ∃ t, t = ts.getD k Tk.none := ⟨_, rfl⟩
        obtain ⟨hc0, hc1, hc2⟩ := hc k hkn
        rw [← ht] at hc0 hc1 hc2
        have g0 := (HO.2.cell (p := ⟨b, off + k * 3, none⟩) hb).trans hc0
        have g1 := (HO.2.cell (p := ⟨b, off + k * 3 + 1, none⟩) hb).trans hc1
        have g2 := (HO.2.cell (p := ⟨b, off + k * 3 + 2, none⟩) hb).trans hc2
        have HT : Hid (t = ts.getD k Tk.none) := ht
        clear hc hc0 hc1 hc2 ht
        go_wp2_with fail
        refine (specTokenOk_any _ _ _ _).mono ?_
        rintro e w2 ⟨rfl, hb2⟩
        have hOA : Out w w2 u3 ((ts.take k).flatMap showT) := (Out.alloc HO _).below hb2
        have hT0 : w2.cell? ⟨wr.heap.size, 0, none⟩ = some (.int .i64 t.c) := (hb2.cell (p := ⟨wr.heap.size, 0, none⟩) (by simp)).trans (by simp)
        have hT1 : w2.cell? ⟨wr.heap.size, 1, none⟩ = some (.int .i64 t.h) := (hb2.cell (p := ⟨wr.heap.size, 1, none⟩) (by simp)).trans (by simp)
        have hT2 : w2.cell? ⟨wr.heap.size, 2, none⟩ = some (.string t.s) := (hb2.cell (p := ⟨wr.heap.size, 2, none⟩) (by simp)).trans (by simp)
        have hne : ∀ g, u3.ownBlock = some g → g ≠ wr.heap.size := fun g hg => by have := (owns_lt HO.1 hg).2; omega
        have HNE : Hid (∀ g, u3.ownBlock = some g → g ≠ wr.heap.size) := hne
        have HO2 : Hid (Out w w2 u3 ((ts.take k).flatMap showT)) := hOA
        have HTB : Hid (w2.heap[wr.heap.size]? = some (.cells #[.int .i64 t.c, .int .i64 t.h, .string t.s] 33 (0, 0))) := (hb2.block _ (by simp)).trans (heap_alloc_last _ _)
        clear hOA hb2 g0 g1 g2 hne HO
        obtain ⟨ok, hok⟩ : ∃ ok, ok = tokB t.c t.h t.s := ⟨_, rfl⟩
        rw [← hok]
        have HOK : Hid (ok = tokB t.c t.h t.s) := hok
        clear hok
        cases ok
        · go_wp2
          go_ret
          refine ⟨?_, HO2.2⟩
          have hf : tokB (ts.getD k Tk.none).c (ts.getD k Tk.none).h (ts.getD k Tk.none).s = false := by rw [← show t = ts.getD k Tk.none from HT]; exact Eq.symm (show false = tokB t.c t.h t.s from HOK)
          rw [okAll_no (by rw [show ts.length = n from HL]; exact hkn) hf]
          rfl
        · by_cases hc0 : t.c = 0
          · have hs40 := name_bounds (show true = tokB t.c t.h t.s from HOK) hc0
            have hc0b : (t.c == 0) = true := by simp [hc0]
            have hsl := flat_take_len ts k
            have hwt : weight ts ≤ 1048576 := HW
            have hszz : w.heap.size ≤ w2.heap.size := HO2.2.size
            have hTB : w2.heap[wr.heap.size]? = some (.cells #[.int .i64 t.c, .int .i64 t.h, .string t.s] 33 (0, 0)) := HTB
            obtain ⟨T, hT⟩ : ∃ T, T = wr.heap.size := ⟨_, rfl⟩
            rw [← hT] at hT0 hT1 hT2 hTB ⊢
            clear HNE hT HTB
            obtain ⟨s, hs⟩ : ∃ s, s = t.s := ⟨_, rfl⟩
            rw [← hs] at hT2 hs40 hTB
            have HSS : Hid (s = t.s) := hs
            have HTB : Hid (w2.heap[T]? = some (.cells #[.int .i64 t.c, .int .i64 t.h, .string s] 33 (0, 0))) := hTB
            clear hs hTB
            have hcv : ∀ W : World, (convert 9 67 (.string s)).run Try.prog W = _ := fun W => run_bytes_of_string (P := Try.prog) W 9 67 5 s Try.underlying9 Try.underlying67 Try.underlying5
            go_upto_region 11 with fail
            go_cut [3] (fun s3 wc => Out w wc s3 ((ts.take k).flatMap showT ++ ([92] ++ s.data.toList)) ∧ s3 ≠ .slice none 0 0 ∧ wc.cell? ⟨T, 2, none⟩ = some (.string s))
            case first =>
              have hTl : T < w2.heap.size := World.block_lt_of_cell? w2 _ hT2
              go_region_law (first
                | (rw [if_pos (by rfl)]; refine wp_append_own _ (.tmp 26) (.tmp 27) 67 rfl w.heap.size 5 i0 (.int .u8 0) 1 1 Try.underlying67 hi hz0 hz1 HI rfl (by decide) _ _ _ rfl (HO2.1.alloc _).drew ⟨w2.heap.size, 0, none⟩ 1 1 [.int .u8 92] rfl rfl (by intro j u hj; match j, hj with | 0, hj => simp at hj; subst hj; simp [Addr.add]) (by intro u hu; simp at hu; subst hu; rfl) (by unfold maxLen; omega) (by omega) (by simp; omega) ?_; intro v' w3 hown' hgrow hnil; have q3 := grown_block hgrow (blockD (blockA HTB _)) (apart33 HO2.1 HTB); have qc : w3.cell? ⟨T, 2, none⟩ = some (.string s) := (by rw [cell_of_row w3 T 2 _ _ _ q3]; rfl); have hz3 : w.heap.size ≤ w3.heap.size := (by have := hgrow.size; simp at this; omega); have O3 : Out w w3 v' ((ts.take k).flatMap showT ++ [92]) := Out.grown (l2 := [92]) (HO2.alloc _).drew hown' hgrow; have N3 : v' ≠ .slice none 0 0 := (fun he => HNN (hnil.1 he).1); clear hgrow hnil)
                | (rw [if_pos (by rfl)]; refine wp_append_own _ (.tmp 26) (.tmp 27) 67 rfl w.heap.size 5 i0 (.int .u8 0) 1 1 Try.underlying67 hi hz0 hz1 HI rfl (by decide) _ _ _ rfl ((HO2.1.alloc _).alloc _).drew.drew ⟨w2.heap.size, 0, none⟩ 1 1 [.int .u8 92] rfl rfl (by intro j u hj; match j, hj with | 0, hj => simp at hj; subst hj; rw [add0]; exact cellD (cellD (cellA (by simp) _))) (by intro u hu; simp at hu; subst hu; rfl) (by unfold maxLen; omega) (by omega) (by simp; omega) ?_; intro v' w3 hown' hgrow hnil; have q3 := grown_block hgrow (blockD (blockD (blockA (blockA HTB _) _))) (apart33 HO2.1 HTB); have qc : w3.cell? ⟨T, 2, none⟩ = some (.string s) := (by rw [cell_of_row w3 T 2 _ _ _ q3]; rfl); have hz3 : w.heap.size ≤ w3.heap.size := (by have := hgrow.size; simp at this; omega); have O3 : Out w w3 v' ((ts.take k).flatMap showT ++ [92]) := Out.grown (l2 := [92]) ((HO2.alloc _).alloc _).drew.drew hown' hgrow; have N3 : v' ≠ .slice none 0 0 := (fun he => HNN (hnil.1 he).1); have hG := grown_block hgrow (T := w2.heap.size + 1) (blockD (blockD (by simpa using heap_alloc_last (w2.alloc _) _))) (fun g hg => by have := (owns_lt HO2.1 hg).2; omega); clear hgrow hnil)
                | (rw [if_pos (by rfl)]; refine wp_append_own _ (.tmp 26) (.tmp 27) 67 rfl w.heap.size 5 i0 (.int .u8 0) 1 1 Try.underlying67 hi hz0 hz1 HI rfl (by decide) _ _ _ rfl ((HO2.1.alloc _).alloc _).drew.drew ⟨w2.heap.size + 1, 0, none⟩ 1 1 [.int .u8 92] rfl rfl (by intro j u hj; match j, hj with | 0, hj => simp at hj; subst hj; rw [add0]; exact cellD (cellD (by simp))) (by intro u hu; simp at hu; subst hu; rfl) (by unfold maxLen; omega) (by omega) (by simp; omega) ?_; intro v' w3 hown' hgrow hnil; have q3 := grown_block hgrow (blockD (blockD (blockA (blockA HTB _) _))) (apart33 HO2.1 HTB); have qc : w3.cell? ⟨T, 2, none⟩ = some (.string s) := (by rw [cell_of_row w3 T 2 _ _ _ q3]; rfl); have hz3 : w.heap.size ≤ w3.heap.size := (by have := hgrow.size; simp at this; omega); have O3 : Out w w3 v' ((ts.take k).flatMap showT ++ [92]) := Out.grown (l2 := [92]) ((HO2.alloc _).alloc _).drew.drew hown' hgrow; have N3 : v' ≠ .slice none 0 0 := (fun he => HNN (hnil.1 he).1); have hG := grown_block hgrow (T := w2.heap.size) (blockD (blockD (blockA (heap_alloc_last w2 _) _))) (fun g hg => by have := (owns_lt HO2.1 hg).2; omega); clear hgrow hnil)
                | (rw [if_pos (by rfl)]; refine wp_append_own _ (.tmp 28) (.tmp 31) 67 rfl w.heap.size 5 i0 (.int .u8 0) 1 1 Try.underlying67 hi hz0 hz1 HI rfl (by decide) _ _ _ rfl (hown'.alloc _).drew ⟨w3.heap.size, 0, none⟩ s.size _ (Lib.strCells s) rfl (by rw [Lib.strCells_length, Nat.mul_one]) (fun j u hj => bytes_at (blockD (heap_alloc_last w3 _)) j u hj) (Lib.strCells_oneCell s) (by unfold maxLen; omega) (by omega) (by simp; omega) ?_; intro v'' w4 hown'' hgrow'' hnil''; have q4 := grown_block hgrow'' (blockD (blockA q3 _)) (apart33 hown' q3); have F : Hid (Out w w4 v'' ((ts.take k).flatMap showT ++ ([92] ++ s.data.toList)) ∧ v'' ≠ .slice none 0 0 ∧ w4.cell? ⟨T, 2, none⟩ = some (.string s)) := ⟨out_name (O3.alloc _).drew hown'' hgrow'', (fun he => N3 (hnil''.1 he).1), (by rw [cell_of_row w4 T 2 _ _ _ q4]; rfl)⟩; clear hown'' hgrow'' hnil'' q4)
                | (rw [if_pos (by rfl)]; refine wp_append_own _ (.tmp 28) (.tmp 31) 67 rfl w.heap.size 5 i0 (.int .u8 0) 1 1 Try.underlying67 hi hz0 hz1 HI rfl (by decide) _ _ _ rfl hown' ⟨_, 0, none⟩ s.size _ (Lib.strCells s) rfl (by rw [Lib.strCells_length, Nat.mul_one]) (fun j u hj => bytes_at hG j u hj) (Lib.strCells_oneCell s) (by unfold maxLen; omega) (by omega) hz3 ?_; intro v'' w4 hown'' hgrow'' hnil''; have q4 := grown_block hgrow'' q3 (apart33 hown' q3); have F : Hid (Out w w4 v'' ((ts.take k).flatMap showT ++ ([92] ++ s.data.toList)) ∧ v'' ≠ .slice none 0 0 ∧ w4.cell? ⟨T, 2, none⟩ = some (.string s)) := ⟨out_name O3 hown'' hgrow'', (fun he => N3 (hnil''.1 he).1), (by rw [cell_of_row w4 T 2 _ _ _ q4]; rfl)⟩; clear hown'' hgrow'' hnil'' q4))
              all_goals
                go_wp2_with fail
                go_meet
                case rel => exact F
            case rest =>
              obtain ⟨hcO, hcN, hcT⟩ := hcut
              have HC : Hid (Out w wc u3 ((ts.take k).flatMap showT ++ ([92] ++ s.data.toList)) ∧ u3 ≠ .slice none 0 0) := ⟨hcO, hcN⟩
              have hzc : w.heap.size ≤ wc.heap.size := hcO.2.size
              have hcl : ((ts.take k).flatMap showT ++ ([92] ++ s.data.toList)).length ≤ 2 * weight ts + 41 := by
                have e : s.data.toList.length = s.size := rfl
                simp only [List.length_append, List.length_cons, List.length_nil]
                omega
              clear hcO hcN
              by_cases hs0 : s.size = 0
              · have hsi : ¬ (0 : Int) < (s.size : Int) := by omega
                have HF : Hid (Out w wc u3 ((ts.take (k + 1)).flatMap showT) ∧ u3 ≠ .slice none 0 0) := by
                  refine ⟨?_, HC.2⟩
                  rw [flat_succ (by rw [show ts.length = n from HL]; exact hkn), ← show t = ts.getD k Tk.none from HT, show_name hc0 (by rw [← show s = t.s from HSS]; exact last_none hs0), ← show s = t.s from HSS]
                  exact HC.1
                go_wp2
                go_roundw
                case rel => exact ⟨k + 1, by omega, by go_num, fun j hj => tok_step HK HT HOK hj, HF⟩
                case measure => simp [intOf]; omega
              · have hsp : s.size - 1 < s.size := by omega
                obtain ⟨lb, hlb⟩ : ∃ lb, lb = letB ((s[s.size - 1]'hsp).toNat : Int) := ⟨_, rfl⟩
                have hcall : ∀ w : World, Calls Try.prog 34 #[.int .u8 ((s[s.size - 1]'hsp).toNat : Int)] w fun e w' => e = .returned (.bool lb) ∧ w' = w := by rw [hlb]; exact specLetter_any _
                have HLB : Hid (lb = lastB t.s) := by rw [← show s = t.s from HSS, hlb]; exact (last_some hsp).symm
                clear hlb
                have hsi : (0 : Int) < (s.size : Int) := by omega
                cases lb
                · go_wp2_with (go_at_call 34; refine (hcall _).mono ?_; rintro e w' ⟨rfl, hw⟩; have hw2 := hw.symm; clear hw; subst hw2)
                  have HF : Hid (Out w wc u3 ((ts.take (k + 1)).flatMap showT) ∧ u3 ≠ .slice none 0 0) := by
                    refine ⟨?_, HC.2⟩
                    rw [flat_succ (by rw [show ts.length = n from HL]; exact hkn), ← show t = ts.getD k Tk.none from HT, show_name hc0 (show false = lastB t.s from HLB).symm, ← show s = t.s from HSS]
                    exact HC.1
                  go_roundw
                  case rel => exact ⟨k + 1, by omega, by go_num, fun j hj => tok_step HK HT HOK hj, HF⟩
                  case measure => simp [intOf]; omega
                · go_wp2_with (first
                    | (go_at_call 34; refine (hcall _).mono ?_; rintro e w' ⟨rfl, hw⟩; have hw2 := hw.symm; clear hw; subst hw2)
                    | (at_builtin; refine wpList_append_own _ rfl _ _ 67 rfl w.heap.size 5 i0 (.int .u8 0) 1 1 Try.underlying67 hi hz0 hz1 HI rfl (by decide) _ _ _ rfl (HC.1.1.alloc _) ⟨wc.heap.size, 0, none⟩ 1 1 [.int .u8 32] rfl rfl (by intro j u hj; match j, hj with | 0, hj => simp at hj; subst hj; simp [Addr.add]) (by intro u hu; simp at hu; subst hu; rfl) (by unfold maxLen; omega) (by omega) (by simp; omega) ?_; intro v5 w5 hown5 hgrow5 hnil5))
                  have HF : Hid (Out w w5 v5 ((ts.take (k + 1)).flatMap showT) ∧ v5 ≠ .slice none 0 0) := by
                    refine ⟨?_, fun he => HC.2 (hnil5.1 he).1⟩
                    rw [flat_succ (by rw [show ts.length = n from HL]; exact hkn), ← show t = ts.getD k Tk.none from HT, show_name' hc0 (show true = lastB t.s from HLB).symm, ← show s = t.s from HSS, ← List.append_assoc]
                    exact Out.grown (l2 := [32]) (HC.1.alloc _) hown5 hgrow5
                  clear hown5 hgrow5 hnil5
                  go_wp2
                  go_roundw
                  case rel => exact ⟨k + 1, by omega, by go_num, fun j hj => tok_step HK HT HOK hj, HF⟩
                  case measure => simp [intOf]; omega
          · by_cases hc16 : t.c = 16
            · have hhb : 1 ≤ t.h ∧ t.h ≤ 9 := slot_bounds (show true = tokB t.c t.h t.s from HOK) hc16
              have hw1 : IntKind.u8.wrap (48 + t.h) = 48 + t.h := by rw [IntKind.wrap_u8]; omega
              have hc0b : (t.c == 0) = false := by simp [hc0]
              have hc16b : (t.c == 16) = true := by simp [hc16]
              have hsl := flat_take_len ts k
              have hszz : w.heap.size ≤ w2.heap.size := HO2.2.size
              have hwt : weight ts ≤ 1048576 := HW
              go_wp2_with (at_builtin; refine wpList_append_own _ rfl _ _ 67 rfl w.heap.size 5 i0 (.int .u8 0) 1 1 Try.underlying67 hi hz0 hz1 HI rfl (by decide) _ _ _ rfl (HO2.1.alloc _) ⟨w2.heap.size, 0, none⟩ 2 2 [.int .u8 35, .int .u8 (48 + t.h)] rfl rfl (by intro j u hj; match j, hj with | 0, hj => simp at hj; subst hj; simp [Addr.add] | 1, hj => simp at hj; subst hj; simp [Addr.add]) (by intro u hu; simp at hu; rcases hu with rfl | rfl <;> rfl) (by unfold maxLen; omega) (by omega) (by simp; omega) ?_; intro v' w3 hown' hgrow hnil)
              have HF : Hid (Out w w3 v' ((ts.take (k + 1)).flatMap showT)) := by
                rw [flat_succ (by rw [show ts.length = n from HL]; exact hkn), ← show t = ts.getD k Tk.none from HT]
                refine Out.grown (HO2.alloc _) ?_ hgrow
                have e : Lib.byteCells (showT t) = [.int .u8 35, .int .u8 (48 + t.h)] := by
                  unfold showT
                  rw [if_neg hc0, if_pos hc16]
                  have := u8_of (x := 48 + t.h) (by omega) (by omega)
                  simp only [Lib.byteCells, List.map_cons, List.map_nil, List.cons.injEq, and_true] at this ⊢
                  exact ⟨rfl, this⟩
                have el : (showT t).length = 2 := by unfold showT; rw [if_neg hc0, if_pos hc16]; rfl
                rw [e, el]
                exact hown'
              have HNZ : Hid (v' ≠ .slice none 0 0) := fun he => HNN (hnil.1 he).1
              clear hown' hgrow hnil
              go_wp2
              go_roundw
              case rel => exact ⟨k + 1, by omega, by go_num, fun j hj => tok_step HK HT HOK hj, HF, HNZ⟩
              case measure => simp [intOf]; omega
            · have hhb : 0 ≤ t.h ∧ t.h ≤ 255 := char_bounds (show true = tokB t.c t.h t.s from HOK) hc0 hc16
              have hw1 : IntKind.u8.wrap t.h = t.h := by rw [IntKind.wrap_u8]; omega
              have hc0b : (t.c == 0) = false := by simp [hc0]
              have hc16b : (t.c == 16) = false := by simp [hc16]
              have hsl := flat_take_len ts k
              have hszz : w.heap.size ≤ w2.heap.size := HO2.2.size
              have hwt : weight ts ≤ 1048576 := HW
              go_wp2_with (at_builtin; refine wpList_append_own _ rfl _ _ 67 rfl w.heap.size 5 i0 (.int .u8 0) 1 1 Try.underlying67 hi hz0 hz1 HI rfl (by decide) _ _ _ rfl (HO2.1.alloc _) ⟨w2.heap.size, 0, none⟩ 1 1 [.int .u8 t.h] rfl rfl (by intro j u hj; match j, hj with | 0, hj => simp at hj; subst hj; simp [Addr.add]) (by intro u hu; simp at hu; subst hu; rfl) (by unfold maxLen; omega) (by omega) (by simp; omega) ?_; intro v' w3 hown' hgrow hnil)
              have HF : Hid (Out w w3 v' ((ts.take (k + 1)).flatMap showT)) := by
                rw [flat_succ (by rw [show ts.length = n from HL]; exact hkn), ← show t = ts.getD k Tk.none from HT]
                refine Out.grown (HO2.alloc _) ?_ hgrow
                have e : Lib.byteCells (showT t) = [.int .u8 t.h] := by
                  unfold showT
                  rw [if_neg hc0, if_neg hc16]
                  exact u8_of hhb.1 hhb.2
                have el : (showT t).length = 1 := by unfold showT; rw [if_neg hc0, if_neg hc16]; rfl
                rw [e, el]
                exact hown'
              have HNZ : Hid (v' ≠ .slice none 0 0) := fun he => HNN (hnil.1 he).1
              clear hown' hgrow hnil
              go_wp2
              go_roundw
              case rel => exact ⟨k + 1, by omega, by go_num, fun j hj => tok_step HK HT HOK hj, HF, HNZ⟩
              case measure => simp [intOf]; omega
      · have hki : ¬ (k : Int) < (n : Int) := by omega
        obtain rfl : k = n := by omega
        have hlen : ts.length = k := HL
        have hall : (ts.take k).flatMap showT = showAll ts := by rw [okAll_yes (by omega) (fun j hj => HK j (by omega)), ← hlen, List.take_length]
        have hout : Out w wr u3 (showAll ts) := by rw [← hall]; exact HO
        obtain ⟨l, hl⟩ : ∃ l, l = showAll ts := ⟨_, rfl⟩
        rw [← hl] at hout
        obtain ⟨g, cap2, rfl⟩ : ∃ g cap2, u3 = .slice (some ⟨g, 0, none⟩) l.length cap2 := by
          rcases hout.1.2 with ⟨h0, _⟩ | ⟨g, c, cur, h0, _⟩
          · exact absurd h0 HNN
          · exact ⟨g, c, h0⟩
        have hcv : (convert 67 9 (.slice (some ⟨g, 0, none⟩) l.length cap2)).run Try.prog wr = .ok (.string ⟨l.toArray⟩) wr := by
          refine run_convert_bytes_back wr 67 9 5 ⟨g, 0, none⟩ cap2 l Try.underlying67 Try.underlying5 Try.underlying9 fun j hj => ?_
          have e : (⟨g, 0, none⟩ : Addr).add j = ⟨g, j, none⟩ := by unfold Addr.add; split <;> simp_all
          rw [e, World.ownsRow.cellAt hout.1 j (by omega)]
          simp [Lib.byteCells, List.getElem?_map, List.getElem?_eq_getElem hj]
        have HF : Hid (Below w.heap.size w wr ∧ l = showAll ts) := ⟨hout.2, hl⟩
        clear hout hall hl hlen
        go_wp2
        go_ret
        refine ⟨?_, HF.1⟩
        rw [← HF.2]
        rfl
end Go.Proofs.Ythecefbejopigaa
