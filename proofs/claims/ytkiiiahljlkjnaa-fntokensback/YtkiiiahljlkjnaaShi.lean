/-
  The walks of impl.showToken and impl.ShowTokens.
-/
import Derived.Test.YtkiiiahljlkjnaaBld
namespace Go.Proofs.Ytkiiiahljlkjnaa
open Go.RowKit Go.Shelf
set_option linter.unusedVariables false
set_option linter.unusedSimpArgs false

theorem isB_alloc {B b : Nat} {bs : List Value} {w : World} (h : Lib.IsBuilder 64 5 B b bs w) (o : Obj) : Lib.IsBuilder 64 5 B b bs (w.alloc o) := by
  rcases h with ⟨hB, v, hbk, hown, hne⟩ | ⟨hB, v, hbk, hown, hne⟩
  · exact .inl ⟨hB, v, blockA hbk o, hown.alloc o, hne⟩
  · exact .inr ⟨hB, v, blockA hbk o, hown.alloc o, hne⟩

theorem tok_cells {w : World} {T : Nat} {c h : Int} {s : ByteArray} (hT : w.heap[T]? = some (.cells #[.int .i64 c, .int .i64 h, .string s] 34 (0, 0))) :
    w.cell? ⟨T, 0, none⟩ = some (.int .i64 c) ∧ w.cell? ⟨T, 1, none⟩ = some (.int .i64 h) ∧ w.cell? ⟨T, 2, none⟩ = some (.string s) :=
  ⟨by rw [cell_of_row w T 0 _ _ _ hT]; rfl, by rw [cell_of_row w T 1 _ _ _ hT]; rfl, by rw [cell_of_row w T 2 _ _ _ hT]; rfl⟩

set_option maxHeartbeats 4000000 in
set_option maxRecDepth 100000 in
theorem showToken_any (B b : Nat) (l : List UInt8) (c k : Int) (s : ByteArray) (w : World) (h : Lib.IsBuilder 64 5 B b (Lib.byteCells l) w) (hl : l.length ≤ 4194304) (hBw : B ≤ w.heap.size) (hok : true = tokB c k s) :
    Calls Try.prog 32 #[.pointer (some ⟨b, 0, none⟩), tokV c k s] w fun e w' => e = .returned (.tuple #[]) ∧ Lib.IsBuilder 64 5 B b (Lib.byteCells (l ++ showT ⟨c, k, s⟩)) w' ∧ Below B w w' ∧ Keeps w w' := by
  have hbl : (Lib.byteCells l).length = l.length := Lib.byteCells_length l
  have hT1 : (w.alloc (.cells #[.int .i64 c, .int .i64 k, .string s] 34)).heap[w.heap.size]? = some (.cells #[.int .i64 c, .int .i64 k, .string s] 34 (0, 0)) := heap_alloc_last w _
  have hI1 := isB_alloc h (.cells #[.int .i64 c, .int .i64 k, .string s] 34)
  have hb1 : Below B w (w.alloc (.cells #[.int .i64 c, .int .i64 k, .string s] 34)) := (Below.refl _ _).alloc hBw _
  have hk1 : Keeps w (w.alloc (.cells #[.int .i64 c, .int .i64 k, .string s] 34)) := Keeps.alloc _ _
  have hB1 : B ≤ (w.alloc (.cells #[.int .i64 c, .int .i64 k, .string s] 34)).heap.size := by simp; omega
  by_cases hc0 : c = 0
  · have hs40 : s.size ≤ 40 := name_bounds hok hc0
    subst hc0
    have H1 : Hid (_ ∧ _ ∧ _ ∧ _ ∧ _) := ⟨hT1, hI1, hb1, hk1, hB1⟩
    clear hT1 hI1 hb1 hk1 hB1 hok
    go_enter Try.func32, Try.ntmps32
    go_wp2_with fail
    refine (writeByte_any B b _ 92 _ H1.2.1 (by omega) H1.2.2.2.2).mono ?_
    rintro e w2 ⟨rfl, hI2, hb2, hk2⟩
    have hT2 := hk2 _ _ _ H1.1
    obtain ⟨p0, p1, p2⟩ := tok_cells hT2
    have H2 : Hid (Lib.IsBuilder 64 5 B b (Lib.byteCells l ++ [.int .u8 92]) w2 ∧ Below B w w2 ∧ Keeps w w2 ∧ B ≤ w2.heap.size ∧ w2.heap[w.heap.size]? = some (.cells #[.int .i64 0, .int .i64 k, .string s] 34 (0, 0))) := ⟨hI2, H1.2.2.1.trans hb2, H1.2.2.2.1.trans hk2, Nat.le_trans H1.2.2.2.2 hb2.size, hT2⟩
    clear hI2 hb2 hk2 hT2 H1
    go_wp2_with fail
    refine (writeString_any B b _ s _ H2.1 (by simp [hbl]; omega) H2.2.2.2.1).mono ?_
    rintro e w3 ⟨rfl, hI3, hb3, hk3⟩
    have hT3 := hk3 _ _ _ H2.2.2.2.2
    clear p0 p1 p2
    obtain ⟨p0, p1, p2⟩ := tok_cells hT3
    have H3 : Hid (Lib.IsBuilder 64 5 B b (Lib.byteCells (l ++ ([92] ++ s.data.toList))) w3 ∧ Below B w w3 ∧ Keeps w w3 ∧ B ≤ w3.heap.size) := by
      refine ⟨?_, H2.2.1.trans hb3, H2.2.2.1.trans hk3, Nat.le_trans H2.2.2.2.1 hb3.size⟩
      have e1 : Lib.byteCells (l ++ ([92] ++ s.data.toList)) = Lib.byteCells l ++ [.int .u8 92] ++ Lib.strCells s := by
        rw [Lib.byteCells_append, Lib.byteCells_append, ← Lib.strCells_eq, ← List.append_assoc]
        rfl
      rw [e1]
      exact hI3
    clear hI3 hb3 hk3 hT3 H2
    by_cases hs0 : s.size = 0
    · have hsi : ¬ (0 : Int) < (s.size : Int) := by omega
      go_wp2
      go_end0
      rw [show_name (t := ⟨0, k, s⟩) rfl (last_none hs0)]
      exact ⟨rfl, H3.1, H3.2.1, H3.2.2.1⟩
    · have hsp : s.size - 1 < s.size := by omega
      obtain ⟨lb, hlb⟩ : ∃ lb, lb = letB ((s[s.size - 1]'hsp).toNat : Int) := ⟨_, rfl⟩
      have hcall : ∀ w : World, Calls Try.prog 46 #[.int .u8 ((s[s.size - 1]'hsp).toNat : Int)] w fun e w' => e = .returned (.bool lb) ∧ w' = w := by rw [hlb]; exact implLetter_any _
      have HLB : Hid (lb = lastB s) := by rw [hlb]; exact (last_some hsp).symm
      clear hlb
      have hsi : (0 : Int) < (s.size : Int) := by omega
      cases lb
      · go_wp2_with (go_at_call 46; refine (hcall _).mono ?_; rintro e w' ⟨rfl, hw⟩; have hw2 := hw.symm; clear hw; subst hw2)
        go_end0
        rw [show_name (t := ⟨0, k, s⟩) rfl (show false = lastB s from HLB).symm]
        exact ⟨rfl, H3.1, H3.2.1, H3.2.2.1⟩
      · go_wp2_with (first
          | (go_at_call 46; refine (hcall _).mono ?_; rintro e w' ⟨rfl, hw⟩; have hw2 := hw.symm; clear hw; subst hw2)
          | (go_at_call 47; refine (writeByte_any B b _ 32 _ H3.1 (by rw [Lib.byteCells_length]; simp only [List.length_append, List.length_cons, List.length_nil]; have : s.data.toList.length = s.size := rfl; omega) H3.2.2.2).mono ?_; rintro e w4 ⟨rfl, hI4, hb4, hk4⟩; have H4 : Hid (Lib.IsBuilder 64 5 B b (Lib.byteCells ((l ++ ([92] ++ s.data.toList)) ++ [32])) w4 ∧ Below B w w4 ∧ Keeps w w4) := (by rw [Lib.byteCells_append]; exact ⟨hI4, H3.2.1.trans hb4, H3.2.2.1.trans hk4⟩); clear hI4 hb4 hk4))
        go_end0
        rw [show_name' (t := ⟨0, k, s⟩) rfl (show true = lastB s from HLB).symm, ← List.append_assoc]
        exact ⟨rfl, ‹Hid (Lib.IsBuilder 64 5 B b (Lib.byteCells ((l ++ ([92] ++ s.data.toList)) ++ [32])) _ ∧ _)›⟩
  · by_cases hc16 : c = 16
    · have hhb : 1 ≤ k ∧ k ≤ 9 := slot_bounds hok hc16
      have hw1 : IntKind.u8.wrap (48 + k) = 48 + k := by rw [IntKind.wrap_u8]; omega
      subst hc16
      have e : Lib.byteCells (showT ⟨16, k, s⟩) = [.int .u8 35, .int .u8 (48 + k)] := by
        unfold showT
        rw [if_neg hc0, if_pos rfl]
        have := u8_of (x := 48 + k) (by omega) (by omega)
        simp only [Lib.byteCells, List.map_cons, List.map_nil, List.cons.injEq, and_true] at this ⊢
        exact ⟨rfl, this⟩
      have E : Hid (Lib.byteCells (showT ⟨16, k, s⟩) = [.int .u8 35, .int .u8 (48 + k)]) := e
      have H1 : Hid (_ ∧ _ ∧ _ ∧ _ ∧ _) := ⟨hT1, hI1, hb1, hk1, hB1⟩
      clear hT1 hI1 hb1 hk1 hB1 hok e
      go_enter Try.func32, Try.ntmps32
      go_wp2_with fail
      refine (writeByte_any B b _ 35 _ H1.2.1 (by omega) H1.2.2.2.2).mono ?_
      rintro e w2 ⟨rfl, hI2, hb2, hk2⟩
      have hT2 := hk2 _ _ _ H1.1
      obtain ⟨p0, p1, p2⟩ := tok_cells hT2
      have H2 : Hid (Lib.IsBuilder 64 5 B b (Lib.byteCells l ++ [.int .u8 35]) w2 ∧ Below B w w2 ∧ Keeps w w2 ∧ B ≤ w2.heap.size) := ⟨hI2, H1.2.2.1.trans hb2, H1.2.2.2.1.trans hk2, Nat.le_trans H1.2.2.2.2 hb2.size⟩
      clear hI2 hb2 hk2 hT2 H1
      go_wp2_with fail
      refine (writeByte_any B b _ (48 + k) _ H2.1 (by simp [hbl]; omega) H2.2.2.2).mono ?_
      rintro e w3 ⟨rfl, hI3, hb3, hk3⟩
      have H3 : Hid (Lib.IsBuilder 64 5 B b (Lib.byteCells (l ++ showT ⟨16, k, s⟩)) w3 ∧ Below B w w3 ∧ Keeps w w3) := by
        refine ⟨?_, H2.2.1.trans hb3, H2.2.2.1.trans hk3⟩
        rw [Lib.byteCells_append, show Lib.byteCells (showT ⟨16, k, s⟩) = [.int .u8 35, .int .u8 (48 + k)] from E]
        simpa using hI3
      clear hI3 hb3 hk3 H2
      go_wp2
      go_end0
      exact ⟨rfl, H3⟩
    · have hhb : 0 ≤ k ∧ k ≤ 255 := char_bounds hok hc0 hc16
      have hw1 : IntKind.u8.wrap k = k := by rw [IntKind.wrap_u8]; omega
      have hc0b : (c == 0) = false := by simp [hc0]
      have hc16b : (c == 16) = false := by simp [hc16]
      have E : Hid (Lib.byteCells (showT ⟨c, k, s⟩) = [.int .u8 k]) := by
        unfold showT
        rw [if_neg hc0, if_neg hc16]
        exact u8_of hhb.1 hhb.2
      have H1 : Hid (_ ∧ _ ∧ _ ∧ _ ∧ _) := ⟨hT1, hI1, hb1, hk1, hB1⟩
      clear hT1 hI1 hb1 hk1 hB1 hok
      go_enter Try.func32, Try.ntmps32
      go_wp2_with fail
      refine (writeByte_any B b _ k _ H1.2.1 (by omega) H1.2.2.2.2).mono ?_
      rintro e w2 ⟨rfl, hI2, hb2, hk2⟩
      have H2 : Hid (Lib.IsBuilder 64 5 B b (Lib.byteCells (l ++ showT ⟨c, k, s⟩)) w2 ∧ Below B w w2 ∧ Keeps w w2) := by
        refine ⟨?_, H1.2.2.1.trans hb2, H1.2.2.2.1.trans hk2⟩
        rw [Lib.byteCells_append, show Lib.byteCells (showT ⟨c, k, s⟩) = [.int .u8 k] from E]
        exact hI2
      clear hI2 hb2 hk2 H1
      go_wp2
      go_end0
      exact ⟨rfl, H2⟩

theorem isB_below {B b : Nat} {bs : List Value} {w w' : World} (h : Lib.IsBuilder 64 5 B b bs w) (hb : Below w.heap.size w w') : Lib.IsBuilder 64 5 B b bs w' := by
  rcases h with ⟨hB, v, hbk, hown, hne⟩ | ⟨hB, v, hbk, hown, hne⟩
  · exact .inl ⟨hB, v, (hb.block b (Array.getElem?_eq_some_iff.1 hbk).1).trans hbk, owns_below hown hb, hne⟩
  · exact .inr ⟨hB, v, (hb.block b (Array.getElem?_eq_some_iff.1 hbk).1).trans hbk, owns_below hown hb, hne⟩

set_option maxRecDepth 20000 in
set_option maxHeartbeats 4000000 in
theorem implShow_any {v : Value} {ts : List Tk} {w : World} (h : TRow w v ts) (hwt : weight ts ≤ 1048576) :
    Calls Try.prog 11 #[v] w fun e w' => e = .returned (.string ⟨(showAll ts).toArray⟩) ∧ Below w.heap.size w w' := by
  obtain ⟨ao, n, cap, rfl, hl, hr⟩ := h
  have hn1 : n ≤ 1048576 := by unfold weight at hwt; omega
  by_cases hbig : 20000 < n
  · have hbi : (20000 : Int) < (n : Int) := by omega
    go_enter Try.func11, Try.ntmps11
    go_wp2
    go_ret
    refine ⟨?_, Below.refl _ _⟩
    rw [okAll_long (by omega)]
    rfl
  · have hbi : ¬ (20000 : Int) < (n : Int) := by omega
    have HR : Hid (0 < n → ∃ b off, ao = some ⟨b, off, none⟩ ∧ b < w.heap.size ∧ ∀ i, i < n →
      w.cell? ⟨b, off + i * 3, none⟩ = some (.int .i64 (ts.getD i Tk.none).c) ∧ w.cell? ⟨b, off + i * 3 + 1, none⟩ = some (.int .i64 (ts.getD i Tk.none).h) ∧ w.cell? ⟨b, off + i * 3 + 2, none⟩ = some (.string (ts.getD i Tk.none).s)) := hr
    have HL : Hid (ts.length = n) := hl
    have HW : Hid (weight ts ≤ 1048576) := hwt
    clear hr hl hwt
    have HB : Hid (Lib.IsBuilder 64 5 w.heap.size w.heap.size (Lib.byteCells []) (w.alloc (.cells #[.pointer none, .slice none 0 0] 64)) ∧ Below w.heap.size w (w.alloc (.cells #[.pointer none, .slice none 0 0] 64))) :=
      ⟨.inl ⟨Nat.le_refl _, .slice none 0 0, heap_alloc_last w _, World.ownsRow_nil _ _ _ _, by simp [Value.ownBlock]⟩, (Below.refl _ _).alloc (Nat.le_refl _) _⟩
    go_enter Try.func11, Try.ntmps11
    go_wp2
    go_loopw [11] (fun s wr => ∃ k : Nat, k ≤ n ∧ s = .int .i64 k ∧ (∀ j, j < k → tokB (ts.getD j Tk.none).c (ts.getD j Tk.none).h (ts.getD j Tk.none).s = true) ∧
        Lib.IsBuilder 64 5 w.heap.size w.heap.size (Lib.byteCells ((ts.take k).flatMap showT)) wr ∧ Below w.heap.size w wr) (fun s _ => n - (intOf s).toNat)
    case atStart => exact ⟨0, by omega, rfl, fun j hj => by omega, HB.1, HB.2⟩
    case round =>
      obtain ⟨k, hk, rfl, hok, hI, hbel⟩ := hrel
      have HK : Hid (∀ j, j < k → tokB (ts.getD j Tk.none).c (ts.getD j Tk.none).h (ts.getD j Tk.none).s = true) := hok
      have HI : Hid (Lib.IsBuilder 64 5 w.heap.size w.heap.size (Lib.byteCells ((ts.take k).flatMap showT)) wr ∧ Below w.heap.size w wr) := ⟨hI, hbel⟩
      clear hok hI hbel
      by_cases hkn : k < n
      · have hki : (k : Int) < (n : Int) := by omega
        obtain ⟨b, off, rfl, hb, hc⟩ := HR (by omega)
        obtain ⟨t, ht⟩ : ∃ t, t = ts.getD k Tk.none := ⟨_, rfl⟩
        obtain ⟨hc0, hc1, hc2⟩ := hc k hkn
        rw [← ht] at hc0 hc1 hc2
        have g0 := (HI.2.cell (p := ⟨b, off + k * 3, none⟩) hb).trans hc0
        have g1 := (HI.2.cell (p := ⟨b, off + k * 3 + 1, none⟩) hb).trans hc1
        have g2 := (HI.2.cell (p := ⟨b, off + k * 3 + 2, none⟩) hb).trans hc2
        have HT : Hid (t = ts.getD k Tk.none) := ht
        clear hc hc0 hc1 hc2 ht
        go_wp2_with fail
        refine (implTokenOk_any _ _ _ _).mono ?_
        rintro e w2 ⟨rfl, hb2⟩
        have hI2 := isB_below (isB_alloc HI.1 _) hb2
        have hB2 : Below w.heap.size w w2 := (HI.2.alloc HI.2.size _).trans (hb2.mono (by simp; have := HI.2.size; omega))
        have hTB : w2.heap[wr.heap.size]? = some (.cells #[.int .i64 t.c, .int .i64 t.h, .string t.s] 34 (0, 0)) := (hb2.block _ (by simp)).trans (heap_alloc_last _ _)
        obtain ⟨hT0, hT1, hT2⟩ := tok_cells hTB
        have H2 : Hid (Lib.IsBuilder 64 5 w.heap.size w.heap.size (Lib.byteCells ((ts.take k).flatMap showT)) w2 ∧ Below w.heap.size w w2) := ⟨hI2, hB2⟩
        clear hI2 hB2 hTB hb2 g0 g1 g2 HI
        obtain ⟨ok, hok⟩ : ∃ ok, ok = tokB t.c t.h t.s := ⟨_, rfl⟩
        rw [← hok]
        have HOK : Hid (ok = tokB t.c t.h t.s) := hok
        clear hok
        cases ok
        · go_wp2
          go_ret
          refine ⟨?_, H2.2⟩
          have hf : tokB (ts.getD k Tk.none).c (ts.getD k Tk.none).h (ts.getD k Tk.none).s = false := by rw [← show t = ts.getD k Tk.none from HT]; exact Eq.symm (show false = tokB t.c t.h t.s from HOK)
          rw [okAll_no (by rw [show ts.length = n from HL]; exact hkn) hf]
          rfl
        · go_wp2_with fail
          refine (showToken_any _ _ _ _ _ _ _ H2.1 (by have := flatS_take_len ts k; have := (show weight ts ≤ 1048576 from HW); omega) H2.2.size HOK).mono ?_
          rintro e w3 ⟨rfl, hI3, hb3, _⟩
          have HF : Hid (Lib.IsBuilder 64 5 w.heap.size w.heap.size (Lib.byteCells ((ts.take (k + 1)).flatMap showT)) w3 ∧ Below w.heap.size w w3) := by
            refine ⟨?_, H2.2.trans hb3⟩
            rw [flatS_succ (by rw [show ts.length = n from HL]; exact hkn), ← show t = ts.getD k Tk.none from HT]
            exact hI3
          clear hI3 hb3
          go_wp2
          go_roundw
          case rel => exact ⟨k + 1, by omega, by go_num, fun j hj => tok_step HK HT HOK hj, HF.1, HF.2⟩
          case measure => simp [intOf]; omega
      · have hki : ¬ (k : Int) < (n : Int) := by omega
        obtain rfl : k = n := by omega
        have hlen : ts.length = k := HL
        have hall : (ts.take k).flatMap showT = showAll ts := by rw [okAll_yes (by omega) (fun j hj => HK j (by omega)), ← hlen, List.take_length]
        have HI2 : Hid (Lib.IsBuilder 64 5 w.heap.size w.heap.size (Lib.byteCells (showAll ts)) wr ∧ Below w.heap.size w wr) := by rw [← hall]; exact HI
        clear hall hlen HI
        go_wp2_with fail
        refine (string_any _ _ _ _ HI2.1 HI2.2.size).mono ?_
        rintro e w2 ⟨rfl, hb2⟩
        have HF : Hid (Below w.heap.size w w2) := HI2.2.trans hb2
        clear hb2
        go_wp2
        go_ret
        exact ⟨rfl, HF⟩
end Go.Proofs.Ytkiiiahljlkjnaa
