/-
  A pattern as it is shown, and the program's ShowPattern.
-/
import Derived.Test.YtejigikcpmhhoaaOki
import Derived.Test.YtejigikcpmhhoaaPto
import Derived.Test.YtejigikcpmhhoaaBuild
namespace Go.Proofs.Ytejigikcpmhhoaa
open Go.RowKit
set_option linter.unusedVariables false
set_option linter.unusedSimpArgs false

theorem retS {a b : ByteArray} (h : a = b) : Ending.returned (Value.string a) = Ending.returned (Value.string b) := by rw [h]
theorem heap_alloc_last (w : World) (o : Obj) : (w.alloc o).heap[w.heap.size]? = some o := by show (w.heap.push o)[w.heap.size]? = _; simp

def digB (z : Int) : List UInt8 := if 0 < z then [UInt8.ofNat (48 + z.toNat)] else []
def letB (s : ByteArray) (k : Nat) : List UInt8 := if k < s.size then [s.data.toList.getD k 0] else []
/-- The text of the first k places. -/
def shw (s : ByteArray) (zs : List Int) : Nat → List UInt8
  | 0 => []
  | k + 1 => shw s zs k ++ (digB (zs.getD k 0) ++ letB s k)
def showT (s : ByteArray) (zs : List Int) : ByteArray := if patB s zs = true then ⟨(shw s zs (s.size + 1)).toArray⟩ else ⟨#[]⟩

theorem digB_len (z : Int) : (digB z).length ≤ 1 := by unfold digB; split <;> simp
theorem letB_len (s : ByteArray) (k : Nat) : (letB s k).length ≤ 1 := by unfold letB; split <;> simp
theorem shw_len (s : ByteArray) (zs : List Int) (k : Nat) : (shw s zs k).length ≤ 2 * k := by
  induction k with
  | zero => simp [shw]
  | succ k ih => simp only [shw, List.length_append]; have := digB_len (zs.getD k 0); have := letB_len s k; omega
theorem dig_none {z : Int} (h : ¬ 0 < z) : digB z = [] := by simp [digB, h]
theorem let_none {s : ByteArray} {k : Nat} (h : ¬ k < s.size) : letB s k = [] := by simp [letB, h]
theorem dig_cell {z : Int} (h : 0 < z) (h9 : z ≤ 9) : Lib.byteCells (digB z) = [.int .u8 (48 + z)] := by
  have h1 : (UInt8.ofNat (48 + z.toNat)).toNat = 48 + z.toNat := by
    rw [UInt8.toNat_ofNat']; omega
  simp only [digB, h, if_true, Lib.byteCells, List.map_cons, List.map_nil, h1]
  congr 2
  omega
theorem let_cell {s : ByteArray} {k : Nat} (h : k < s.size) : Lib.byteCells (letB s k) = [.int .u8 (byteAt s k : Int)] := by
  simp only [letB, h, if_true, Lib.byteCells, List.map_cons, List.map_nil]
  rfl
theorem shw_step (s : ByteArray) (zs : List Int) (k : Nat) : Lib.byteCells (shw s zs (k + 1)) = Lib.byteCells (shw s zs k) ++ Lib.byteCells (digB (zs.getD k 0)) ++ Lib.byteCells (letB s k) := by
  simp only [shw, Lib.byteCells_append, List.append_assoc]

theorem showT_no {s : ByteArray} {zs : List Int} (h : patB s zs = false) : showT s zs = ⟨#[]⟩ := by simp [showT, h]
theorem showT_yes {s : ByteArray} {zs : List Int} (h : patB s zs = true) : showT s zs = ⟨(shw s zs (s.size + 1)).toArray⟩ := by simp [showT, h]

set_option maxHeartbeats 4000000 in
theorem implShow_any {v : Value} {s : ByteArray} {zs : List Int} {w : World} (h : Row w v zs) (hl : zs.length ≤ 1048576) (hs : s.size ≤ 9223372036854775807) :
    Calls Try.prog 11 #[patV s v] w fun e w' => e = .returned (.string (showT s zs)) ∧ Below w.heap.size w w' := by
  obtain ⟨ao, n, cap, rfl, hn, hr⟩ := id h
  have HX := hideP h
  have HR : Hid (0 < n → ∃ b off, ao = some ⟨b, off, none⟩ ∧ b < w.heap.size ∧ ∀ i, i < n → w.cell? ⟨b, off + i, none⟩ = some (.int .i64 (zs.getD i 0))) := hr
  have HN := hideP hn
  have hnl : n ≤ 1048576 := by omega
  clear h hn hr
  obtain ⟨pb, hpb⟩ : ∃ b, b = patB s zs := ⟨_, rfl⟩
  have c1 : Hid (∀ W, Below w.heap.size w W → Calls Try.prog 12 #[patV s (.slice ao n cap)] W fun e w' => e = .returned (.bool pb) ∧ Below W.heap.size W w') := hideP (fun W hW => by rw [hpb]; exact implPatternOk_any (HX.out.below hW) hl hs)
  have HP := hideP hpb
  clear hpb HX hl
  cases pb
  · go_enter Try.func11, Try.ntmps11
    go_wp2_with fail
    refine (c1.out _ (below1 _ _)).mono ?_
    rintro e w1 ⟨rfl, hb1⟩
    have B1 : Hid (Below w.heap.size w w1) := below_more (below1 _ _) hb1 (by simp)
    clear hb1
    go_wp2
    go_ret
    exact ⟨retS (showT_no HP.out.symm).symm, B1⟩
  · have hpp : PatP s zs := of_decide_eq_true HP.out.symm
    have h20 : s.size ≤ 20 := hpp.1
    have hns : n = s.size + 1 := by rw [← HN.out]; exact hpp.2.2.1
    have HM : Hid (∀ j, j < n → 0 ≤ zs.getD j 0 ∧ zs.getD j 0 ≤ 9) := hideP (fun j hj => hpp.2.2.2 j (by rw [HN.out]; exact hj))
    have HNS := hideP hns
    clear hpp hns
    go_enter Try.func11, Try.ntmps11
    go_wp2_with fail
    refine (c1.out _ (below1 _ _)).mono ?_
    rintro e w1 ⟨rfl, hb1⟩
    have hz1 : w.heap.size < w1.heap.size := by have := hb1.size; simp at this; omega
    have q0 : w1.cell? ⟨w.heap.size, 0, none⟩ = some (.string s) := by rw [(bcell hb1).1 _ _ (by simp)]; simp [go_sem]
    have q1 : w1.cell? ⟨w.heap.size, 1, none⟩ = some (.slice ao n cap) := by rw [(bcell hb1).1 _ _ (by simp)]; simp [go_sem]
    have B1 : Hid (Below w.heap.size w w1) := below_more (below1 _ _) hb1 (by simp)
    clear hb1
    have HB : Hid (Lib.IsBuilder 56 5 w1.heap.size w1.heap.size (Lib.byteCells (shw s zs 0)) (w1.alloc (.cells #[.pointer none, .slice none 0 0] 56)) ∧ Below w1.heap.size w1 (w1.alloc (.cells #[.pointer none, .slice none 0 0] 56))) :=
      ⟨.inl ⟨Nat.le_refl _, .slice none 0 0, heap_alloc_last w1 _, World.ownsRow_nil _ _ _ _, by simp [Value.ownBlock]⟩, (Below.refl _ _).alloc (Nat.le_refl _) _⟩
    go_wp2
    go_loopw [12] (fun i wr => ∃ k : Nat, k ≤ n ∧ i = .int .i64 k ∧ Hid (Lib.IsBuilder 56 5 w1.heap.size w1.heap.size (Lib.byteCells (shw s zs k)) wr ∧ Below w1.heap.size w1 wr)) (fun i _ => n - (intOf i).toNat)
    case atStart => exact ⟨0, by omega, rfl, HB⟩
    case round =>
      obtain ⟨k, hk, rfl, HI⟩ := hrel
      clear HB
      by_cases hkn : k < n
      · have hki : (k : Int) < (n : Int) := by omega
        have hwz : w.heap.size < wr.heap.size := Nat.lt_of_lt_of_le hz1 HI.out.2.size
        have r0 : wr.cell? ⟨w.heap.size, 0, none⟩ = some (.string s) := (HI.out.2.cell (p := ⟨w.heap.size, 0, none⟩) hz1).trans q0
        obtain ⟨b, off, rfl, hb, hc⟩ := HR (by omega)
        obtain ⟨z, hz⟩ : ∃ z, z = zs.getD k 0 := ⟨_, rfl⟩
        have hcell : wr.cell? ⟨b, off + k, none⟩ = some (.int .i64 z) := by
          rw [hz]
          exact (HI.out.2.cell (p := ⟨b, off + k, none⟩) (Nat.lt_trans hb hz1)).trans ((B1.out.cell (p := ⟨b, off + k, none⟩) hb).trans (hc k hkn))
        have hz9 : 0 ≤ z ∧ z ≤ 9 := by rw [hz]; exact HM.out k hkn
        have HZ := hideP hz
        have hlen : (shw s zs k).length ≤ 2 * k := shw_len s zs k
        have HLEN : Hid ((shw s zs k).length ≤ 2097152) := hideP (by omega)
        clear hz hc hlen
        obtain ⟨hz0, hz9⟩ := hz9
        -- behind the digit
        by_cases hpos : 0 < z
        · have f1 : (z != 0) = true := by simp; omega
          have HD : Hid (Lib.byteCells (digB (zs.getD k 0)) = [.int .u8 (48 + z)]) := hideP (by rw [← HZ.out]; exact dig_cell hpos hz9)
          go_wp2_with fail
          refine (writeByte_any w1.heap.size w1.heap.size _ (48 + z) _ HI.out.1 (by rw [Lib.byteCells_length]; have := HLEN.out; omega) HI.out.2.size).mono ?_
          rintro e w2 ⟨rfl, hI2, hb2⟩
          have H2 : Hid (Lib.IsBuilder 56 5 w1.heap.size w1.heap.size (Lib.byteCells (shw s zs k) ++ Lib.byteCells (digB (zs.getD k 0))) w2 ∧ Below w1.heap.size w1 w2) := hideP ⟨by rw [HD.out]; exact hI2, HI.out.2.trans hb2⟩
          have hwz2 : w.heap.size < w2.heap.size := Nat.lt_of_lt_of_le hz1 H2.out.2.size
          have r2 : w2.cell? ⟨w.heap.size, 0, none⟩ = some (.string s) := (H2.out.2.cell (p := ⟨w.heap.size, 0, none⟩) hz1).trans q0
          clear hI2 hb2 HI hcell
          by_cases hks : k < s.size
          · have hksi : (k : Int) < (s.size : Int) := by omega
            have hbb : ((s[k]'hks).toNat : Int) = (byteAt s k : Int) := by rw [byteAt_get s k hks]
            go_wp2_with fail
            refine (writeByte_any w1.heap.size w1.heap.size _ _ _ H2.out.1 (by rw [List.length_append, Lib.byteCells_length, HD.out]; have := HLEN.out; simp; omega) H2.out.2.size).mono ?_
            rintro e w3 ⟨rfl, hI3, hb3⟩
            have H3 : Hid (Lib.IsBuilder 56 5 w1.heap.size w1.heap.size (Lib.byteCells (shw s zs (k + 1))) w3 ∧ Below w1.heap.size w1 w3) := hideP ⟨by rw [shw_step, let_cell hks]; exact hI3, H2.out.2.trans hb3⟩
            clear hI3 hb3
            go_wp2
            go_roundw
            case rel => exact ⟨k + 1, by omega, by go_num, H3⟩
            case measure => simp [intOf]; omega
          · have hksi : ¬ ((k : Int) < (s.size : Int)) := by omega
            have H3 : Hid (Lib.IsBuilder 56 5 w1.heap.size w1.heap.size (Lib.byteCells (shw s zs (k + 1))) w2 ∧ Below w1.heap.size w1 w2) := hideP ⟨by rw [shw_step, let_none hks]; simpa [Lib.byteCells] using H2.out.1, H2.out.2⟩
            go_wp2
            go_roundw
            case rel => exact ⟨k + 1, by omega, by go_num, H3⟩
            case measure => simp [intOf]; omega
        · obtain rfl : z = 0 := by omega
          have HD : Hid (digB (zs.getD k 0) = []) := hideP (by rw [← HZ.out]; rfl)
          by_cases hks : k < s.size
          · have hksi : (k : Int) < (s.size : Int) := by omega
            have hbb : ((s[k]'hks).toNat : Int) = (byteAt s k : Int) := by rw [byteAt_get s k hks]
            go_wp2_with fail
            refine (writeByte_any w1.heap.size w1.heap.size _ _ _ HI.out.1 (by rw [Lib.byteCells_length]; have := HLEN.out; omega) HI.out.2.size).mono ?_
            rintro e w3 ⟨rfl, hI3, hb3⟩
            have H3 : Hid (Lib.IsBuilder 56 5 w1.heap.size w1.heap.size (Lib.byteCells (shw s zs (k + 1))) w3 ∧ Below w1.heap.size w1 w3) := hideP ⟨by rw [shw_step, let_cell hks, HD.out]; simpa [Lib.byteCells] using hI3, HI.out.2.trans hb3⟩
            clear hI3 hb3
            go_wp2
            go_roundw
            case rel => exact ⟨k + 1, by omega, by go_num, H3⟩
            case measure => simp [intOf]; omega
          · have hksi : ¬ ((k : Int) < (s.size : Int)) := by omega
            have H3 : Hid (Lib.IsBuilder 56 5 w1.heap.size w1.heap.size (Lib.byteCells (shw s zs (k + 1))) wr ∧ Below w1.heap.size w1 wr) := hideP ⟨by rw [shw_step, let_none hks, HD.out]; simpa [Lib.byteCells] using HI.out.1, HI.out.2⟩
            go_wp2
            go_roundw
            case rel => exact ⟨k + 1, by omega, by go_num, H3⟩
            case measure => simp [intOf]; omega
      · have hki : ¬ (k : Int) < (n : Int) := by omega
        obtain rfl : k = n := by omega
        go_wp2_with fail
        refine (string_any _ _ _ _ HI.out.1 HI.out.2.size).mono ?_
        rintro e w2 ⟨rfl, hb2⟩
        have HF : Hid (Below w.heap.size w w2) := hideP (B1.out.trans ((HI.out.2.trans hb2).mono (Below.size B1.out)))
        have HT : Hid (showT s zs = ⟨(shw s zs k).toArray⟩) := hideP (by rw [showT_yes HP.out.symm, HNS.out])
        clear hb2
        go_wp2
        go_ret
        exact ⟨retS HT.out.symm, HF⟩
end Go.Proofs.Ytejigikcpmhhoaa
