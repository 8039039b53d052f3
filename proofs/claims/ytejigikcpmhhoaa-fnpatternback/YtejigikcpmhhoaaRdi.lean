/-
  The program's ReadPattern.
-/
import Derived.Test.YtejigikcpmhhoaaOwn
namespace Go.Proofs.Ytejigikcpmhhoaa
open Go.RowKit
set_option linter.unusedVariables false
set_option linter.unusedSimpArgs false

/-- What the loop of ReadPattern has in memory. -/
def RdS (w wr : World) (s : ByteArray) (l m : Value) (n : Nat) (ls : List UInt8) (ms : List Int) (mk : Int) : Prop :=
  (ls.length = n ∧ ms.length = n) ∧ wr.ownsRow w.heap.size 5 1 l n (Lib.byteCells ls) ∧ wr.ownsRow w.heap.size 2 1 m (n + 1) ((ms ++ [zmk mk]).map (Value.int .i64)) ∧ BytesAt wr (w.heap.size + 1 + 1 + 1) s ∧
  wr.heap[w.heap.size]? = some (.cells #[.string ⟨#[]⟩, .slice none 0 0] 26 (0, 0)) ∧ Below w.heap.size w wr

theorem marks_set (ms : List Int) (z : Int) : ((ms ++ [zmk (-1)]).map (Value.int .i64)).set ms.length (.int .i64 z) = (ms ++ [z]).map (Value.int .i64) := by
  simp

theorem Try.info2b : (Try.prog.info? 2).map (fun i => (i.zero, i.size, i.bytes)) = some (some (.int .i64 0), 1, 8) := by kernel_rfl

theorem cell_one (w : World) (x : Value) (ty : Nat) : ∀ j u, [x][j]? = some u → (w.alloc (.cells #[x] ty)).cell? ((⟨w.heap.size, 0, none⟩ : Addr).add j) = some u := by
  intro j u hj
  match j, hj with
  | 0, hj => simp at hj; subst hj; simp [Addr.add]

theorem rd_start (w : World) (s : ByteArray) (cb : Nat) : RdS w ((((w.alloc (.cells #[.string ⟨#[]⟩, .slice none 0 0] 26)).alloc (.cells #[] 5)).alloc (.cells #[.int .i64 0] 2)).alloc (.cells (bytesRow s cb) 5 ((bytesRow s cb).size, (bytesRow s cb).size + 1))).drew s (.slice (some ⟨w.heap.size + 1, 0, none⟩) 0 0) (.slice (some ⟨w.heap.size + 1 + 1, 0, none⟩) 1 1) 0 [] [] (-1) := by
  refine ⟨⟨rfl, rfl⟩, ⟨by simp [Lib.byteCells], .inr ⟨w.heap.size + 1, 0, #[], rfl, by omega, ?_, Nat.le_refl _, by unfold maxLen; omega, rfl, rfl⟩⟩, ⟨by simp, .inr ⟨w.heap.size + 1 + 1, 1, #[.int .i64 0], rfl, by omega, ?_, by simp, by unfold maxLen; omega, rfl, by simp [zmk]⟩⟩, ?_, ?_, ?_⟩
  · exact blockA (blockA (heap_last2 w _ _) _) _
  · exact blockA (heap_last3 w _ _ _) _
  · have := BytesAt.new (((w.alloc (.cells #[.string ⟨#[]⟩, .slice none 0 0] 26)).alloc (.cells #[] 5)).alloc (.cells #[.int .i64 0] 2)) s cb
    rw [World.size_alloc, World.size_alloc, World.size_alloc] at this
    exact this
  · exact blockA (blockA (blockA (heap_alloc_last w _) _) _) _
  · exact (((below3 w _ _ _).alloc (by simp; omega) _)).drew

theorem rd_grown1 {w wr w2 : World} {s : ByteArray} {l m v' : Value} {n : Nat} {ls : List UInt8} {ms : List Int} {mk x : Int} {k : Nat} {o : Obj} (h : Hid (RdS w wr s l m n ls ms mk)) (hg : (wr.alloc o).grownBy w2 l.ownBlock) (ho : w2.ownsRow w.heap.size 5 1 v' (n + 1) (Lib.byteCells ls ++ [.int .u8 x])) (hx : Hid (x = (byteAt s k : Int))) :
    w2.ownsRow w.heap.size 5 1 v' (n + 1) (Lib.byteCells (ls ++ [s.data.toList.getD k 0])) ∧ w2.ownsRow w.heap.size 2 1 m (n + 1) ((ms ++ [zmk mk]).map (Value.int .i64)) ∧ BytesAt w2 (w.heap.size + 1 + 1 + 1) s ∧
    w2.heap[w.heap.size]? = some (.cells #[.string ⟨#[]⟩, .slice none 0 0] 26 (0, 0)) ∧ Below w.heap.size w w2 := by
  obtain ⟨h0, h1, h2, h3, h4, h5⟩ := h.out
  refine ⟨?_, own_grown (h1.alloc o) hg (h2.alloc o) (by decide), (h3.alloc o).grown (h1.alloc o) hg, keep_grown (h1.alloc o) hg (blockA h4 o) (fun c he => by injection he with _ h3; exact absurd h3 (by decide)), ?_⟩
  · rw [Lib.byteCells_append]
    have e : Lib.byteCells [s.data.toList.getD k 0] = [.int .u8 x] := by rw [hx.out]; rfl
    rw [e]
    exact ho
  · exact (h5.alloc h5.size o).grown hg (by simp; have := h5.size; omega) (fun g hgk => (owns_lt (h1.alloc o) hgk).1)

theorem rd_grown2 {w wr w2 w3 : World} {s : ByteArray} {l l' m v' : Value} {n k : Nat} {ls : List UInt8} {ms : List Int} {mk : Int} {o : Obj} (h0 : Hid (RdS w wr s l' m n ls ms mk)) (h : Hid (w2.ownsRow w.heap.size 5 1 l (n + 1) (Lib.byteCells (ls ++ [s.data.toList.getD k 0])) ∧ w2.ownsRow w.heap.size 2 1 m (n + 1) ((ms ++ [zmk mk]).map (Value.int .i64)) ∧ BytesAt w2 (w.heap.size + 1 + 1 + 1) s ∧
    w2.heap[w.heap.size]? = some (.cells #[.string ⟨#[]⟩, .slice none 0 0] 26 (0, 0)) ∧ Below w.heap.size w w2)) (hg : (w2.alloc o).grownBy w3 m.ownBlock) (ho : w3.ownsRow w.heap.size 2 1 v' (n + 1 + 1) ((ms ++ [zmk mk]).map (Value.int .i64) ++ [.int .i64 0])) :
    RdS w w3 s l v' (n + 1) (ls ++ [s.data.toList.getD k 0]) (ms ++ [zmk mk]) (-1) := by
  obtain ⟨h1, h2, h3, h4, h5⟩ := h.out
  obtain ⟨⟨e1, e2⟩, _⟩ := h0.out
  refine ⟨⟨by simp [e1], by simp [e2]⟩, own_grown (h2.alloc o) hg (h1.alloc o) (by decide), ?_, (h3.alloc o).grown (h2.alloc o) hg, keep_grown (h2.alloc o) hg (blockA h4 o) (fun c he => by injection he with _ h3; exact absurd h3 (by decide)), ?_⟩
  · have e : ((ms ++ [zmk mk]) ++ [zmk (-1)]).map (Value.int .i64) = (ms ++ [zmk mk]).map (Value.int .i64) ++ [.int .i64 0] := by simp [zmk]
    rw [e]
    exact ho
  · exact (h5.alloc h5.size o).grown hg (by simp; have := h5.size; omega) (fun g hgk => (owns_lt (h2.alloc o) hgk).1)

theorem rd_stored {w wr : World} {s : ByteArray} {l : Value} {gm cm n : Nat} {ls : List UInt8} {ms : List Int} {z : Int} (h : Hid (RdS w wr s l (.slice (some ⟨gm, 0, none⟩) (n + 1) cm) n ls ms (-1))) (hz : 0 ≤ z) :
    RdS w (wr.setCell ⟨gm, n, none⟩ (.int .i64 z)) s l (.slice (some ⟨gm, 0, none⟩) (n + 1) cm) n ls ms z := by
  obtain ⟨⟨e1, e2⟩, h1, h2, h3, h4, h5⟩ := h.out
  refine ⟨⟨e1, e2⟩, own_set h2 h1 (by decide), ?_, h3.set h2, keep_set h2 h4 (fun c he => by injection he with _ h3; exact absurd h3 (by decide)), h5.setCell ?_ _⟩
  · have := (World.ownsRow.stored h2 n (.int .i64 z)).1
    rw [← e2, marks_set, e2] at this
    rw [show zmk z = z by unfold zmk; rw [if_neg (by omega)]]
    exact this
  · exact (owns_lt h2 rfl).1

set_option maxRecDepth 100000 in
set_option maxHeartbeats 4000000 in
theorem implRead_any (s : ByteArray) (w : World) (hs : s.size ≤ 1048576) :
    Calls Try.prog 10 #[.string s] w fun e w' => ∃ v, e = .returned (.tuple #[patV (rdS s) v, .bool (rdB s)]) ∧ w'.ownsRow w.heap.size 2 1 v (rdM s).length ((rdM s).map (Value.int .i64)) ∧ Below w.heap.size w w' := by
  have hcv : ∀ W : World, (convert 9 22 (.string s)).run Try.prog W = _ := fun W => run_bytes_of_string (P := Try.prog) W 9 22 5 s Try.underlying9 Try.underlying22 Try.underlying5
  obtain ⟨i0, hi, hz0, hz1, hz2⟩ := info_parts Try.info5
  obtain ⟨i2, hi2, hy0, hy1, hy2⟩ := info_parts Try.info2
  have HI0 := hideP (And.intro hi (And.intro hz0 (And.intro hz1 hz2)))
  have HI2 := hideP (And.intro hi2 (And.intro hy0 (And.intro hy1 hy2)))
  clear hi hz0 hz1 hz2 hi2 hy0 hy1 hy2
  go_enter Try.func10, Try.ntmps10
  go_wp2
  clear hcv
  generalize hcb : grownCap _ s.size 0 5 = cb
  clear hcb
  have HS := hideP (rd_start w s cb)
  go_loopw [4, 5, 6, 15] (fun l m d i wr => ∃ (k n : Nat) (ls : List UInt8) (ms : List Int) (mk : Int), k ≤ s.size ∧ i = .int .i64 k ∧ d = .bool (decide (0 ≤ mk)) ∧ -1 ≤ mk ∧ n ≤ k ∧ (∃ g cap, l = .slice (some ⟨g, 0, none⟩) n cap) ∧ (∃ g cap, m = .slice (some ⟨g, 0, none⟩) (n + 1) cap) ∧
      Hid (RdS w wr s l m n ls ms mk) ∧ Hid (rd [] [] (-1) s.data.toList = rd ls ms mk (s.data.toList.drop k))) (fun _ _ _ i _ => s.size - (intOf i).toNat)
  case atStart => exact ⟨0, 0, [], [], -1, by omega, rfl, rfl, by omega, by simp, ⟨_, _, rfl⟩, ⟨_, _, rfl⟩, HS, hideP rfl⟩
  case round =>
    obtain ⟨k, n, ls, ms, mk, hk, rfl, rfl, hmk, hlk, ⟨gl, cl, rfl⟩, ⟨gm, cm, rfl⟩, HM, HR⟩ := hrel
    clear HS
    by_cases hlt : k < s.size
    · have hki : (k : Int) < (s.size : Int) := by omega
      obtain ⟨x, hx⟩ : ∃ x : Int, x = (byteAt s k : Int) := ⟨_, rfl⟩
      have hcell : wr.cell? ⟨w.heap.size + 1 + 1 + 1, k, none⟩ = some (.int .u8 x) := by rw [hx]; exact HM.out.2.2.2.1.cell hlt
      have HX := hideP hx
      have hx0 : 0 ≤ x := by omega
      have hx1 : x ≤ 255 := by have := byteAt_le s k; omega
      have HD := hideP (drop_at s hlt)
      clear hx
      by_cases hd : 48 ≤ x ∧ x ≤ 57
      · obtain ⟨hd0, hd1⟩ := hd
        have e1 : decide (x < 48) = false := by simp; omega
        have e2 : decide (57 < x) = false := by simp; omega
        have HDG : Hid (isDig (s.data.toList.getD k 0)) := hideP (dig_of.2 (by have := HX.out; omega))
        by_cases hm0 : 0 ≤ mk
        · rw [show decide (0 ≤ mk) = true by simp [hm0]]
          have HN : Hid (readR s = none) := hideP (readR_none (by rw [HR.out, HD.out, rd_two HDG.out hm0]))
          have hR := HM.out.2.2.2.2.1
          have hRz : w.heap.size < wr.heap.size := (Array.getElem?_eq_some_iff.1 hR).1
          have r0 : wr.cell? ⟨w.heap.size, 0, none⟩ = some (.string ⟨#[]⟩) := by rw [cell_of_row wr _ _ _ _ _ hR]; rfl
          have r1 : wr.cell? ⟨w.heap.size, 1, none⟩ = some (.slice none 0 0) := by rw [cell_of_row wr _ _ _ _ _ hR]; rfl
          have f0 : wr.frozen? ⟨w.heap.size, 0, none⟩ = false := frozen_of_row wr _ _ _ _ hR
          have f1 : wr.frozen? ⟨w.heap.size, 1, none⟩ = false := frozen_of_row wr _ _ _ _ hR
          have HBW := hideP HM.out.2.2.2.2.2
          have HT := hideP (two_at (two_set hR (.string ⟨#[]⟩) (.slice none 0 0)))
          clear hR hd0 hd1 HM
          go_wp2
          obtain ⟨n0, n1, n2⟩ := read_none HN.out
          obtain ⟨t0, t1, t2⟩ := HT.out
          have hB3 := Below.setCell (Below.setCell HBW.out (p := ⟨w.heap.size, 0, none⟩) (by simp) (.string ⟨#[]⟩)) (p := ⟨w.heap.size, 1, none⟩) (by simp) (.slice none 0 0)
          generalize ((wr.setCell ⟨w.heap.size, 0, none⟩ (.string ⟨#[]⟩)).setCell ⟨w.heap.size, 1, none⟩ (.slice none 0 0)) = W at t0 t1 t2 hB3 ⊢
          exact bodyPost_ret (v := .tuple #[patV ⟨#[]⟩ (.slice none 0 0), .bool false]) (by simp [results, Try.results10, go_sem, t0, t1]) rfl ⟨.slice none 0 0, by rw [n0, n2], by rw [n1]; exact World.ownsRow_nil _ _ _ _, hB3⟩
        · rw [show decide (0 ≤ mk) = false by simp [hm0]]
          obtain rfl : mk = -1 := by omega
          have hown := HM.out.2.2.1
          have hfz : wr.frozen? ⟨gm, n, none⟩ = false := World.ownsRow.frozenAt hown n
          obtain ⟨y, hco⟩ : ∃ y, wr.cell? ⟨gm, n, none⟩ = some y := by
            rw [World.ownsRow.cellAt hown n (by omega)]
            exact ⟨_, List.getElem?_eq_getElem (by rw [hown.1]; omega)⟩
          have hin : (n : Int) < (n : Int) + 1 := by omega
          have H2 := hideP (rd_stored HM (z := x - 48) (by omega))
          clear hown
          go_wp2
          go_roundw
          case rel => exact ⟨k + 1, n, ls, ms, x - 48, by omega, by go_num, by simp; omega, by omega, by omega, ⟨_, _, rfl⟩, ⟨_, _, rfl⟩, H2, hideP (by rw [HR.out, HD.out, rd_digit HDG.out (by omega)]; congr 1; rw [HX.out]; rfl)⟩
          case measure => simp [intOf]; omega
      · have HDG : Hid (¬ isDig (s.data.toList.getD k 0)) := hideP (fun h => hd (by have := dig_of.1 h; have := HX.out; omega))
        by_cases hlo : x < 48
        · have e1 : decide (x < 48) = true := by simp; omega
          clear hd
          go_wp2_with (at_builtin; refine wpList_append_own _ rfl _ _ 22 rfl w.heap.size 5 i0 (.int .u8 0) 1 1 Try.underlying22 HI0.out.1 HI0.out.2.1 HI0.out.2.2.1 HI0.out.2.2.2 rfl (by decide) _ _ _ rfl (HM.out.2.1.alloc _) ⟨wr.heap.size, 0, none⟩ 1 1 [.int .u8 x] rfl rfl (cell_one wr _ _) (by intro u hu; simp at hu; subst hu; rfl) (by unfold maxLen; omega) (by omega) (by simp; have := Below.size HM.out.2.2.2.2.2; omega) ?_)
          intro v' w2 hown' hgrow0 hnil
          have H2 := hideP (rd_grown1 HM hgrow0 hown' HX)
          obtain ⟨gv, cv, rfl, hbv, hlv⟩ := own_shape hown' (by omega)
          clear hown' hgrow0 hnil hbv hlv
          go_wp2_with (at_builtin; refine wpList_append_own _ rfl _ _ 24 rfl w.heap.size 2 i2 (.int .i64 0) 1 8 Try.underlying24 HI2.out.1 HI2.out.2.1 HI2.out.2.2.1 HI2.out.2.2.2 rfl (by decide) _ _ _ rfl (H2.out.2.1.alloc _) ⟨w2.heap.size, 0, none⟩ 1 1 [.int .i64 0] rfl rfl (cell_one w2 _ _) (by intro u hu; simp at hu; subst hu; rfl) (by unfold maxLen; omega) (by omega) (by simp; have := Below.size H2.out.2.2.2.2; omega) ?_)
          intro v3 w3 hown3 hgrow3 hnil3
          have H3 := hideP (rd_grown2 HM H2 hgrow3 (by simpa using hown3))
          obtain ⟨gu, cu, rfl, hbu, hlu⟩ := own_shape hown3 (by omega)
          clear hown3 hgrow3 hnil3 hbu hlu
          go_wp2
          go_roundw
          case rel => exact ⟨k + 1, n + 1, ls ++ [s.data.toList.getD k 0], ms ++ [zmk mk], -1, by omega, by go_num, rfl, by omega, by omega, ⟨_, _, rfl⟩, ⟨_, _, rfl⟩, H3, hideP (by rw [HR.out, HD.out, rd_letter HDG.out])⟩
          case measure => simp [intOf]; omega
        · have e1 : decide (x < 48) = false := by simp; omega
          have e2 : decide (57 < x) = true := by simp; omega
          clear hd
          go_wp2_with (at_builtin; refine wpList_append_own _ rfl _ _ 22 rfl w.heap.size 5 i0 (.int .u8 0) 1 1 Try.underlying22 HI0.out.1 HI0.out.2.1 HI0.out.2.2.1 HI0.out.2.2.2 rfl (by decide) _ _ _ rfl (HM.out.2.1.alloc _) ⟨wr.heap.size, 0, none⟩ 1 1 [.int .u8 x] rfl rfl (cell_one wr _ _) (by intro u hu; simp at hu; subst hu; rfl) (by unfold maxLen; omega) (by omega) (by simp; have := Below.size HM.out.2.2.2.2.2; omega) ?_)
          intro v' w2 hown' hgrow0 hnil
          have H2 := hideP (rd_grown1 HM hgrow0 hown' HX)
          obtain ⟨gv, cv, rfl, hbv, hlv⟩ := own_shape hown' (by omega)
          clear hown' hgrow0 hnil hbv hlv
          go_wp2_with (at_builtin; refine wpList_append_own _ rfl _ _ 24 rfl w.heap.size 2 i2 (.int .i64 0) 1 8 Try.underlying24 HI2.out.1 HI2.out.2.1 HI2.out.2.2.1 HI2.out.2.2.2 rfl (by decide) _ _ _ rfl (H2.out.2.1.alloc _) ⟨w2.heap.size, 0, none⟩ 1 1 [.int .i64 0] rfl rfl (cell_one w2 _ _) (by intro u hu; simp at hu; subst hu; rfl) (by unfold maxLen; omega) (by omega) (by simp; have := Below.size H2.out.2.2.2.2; omega) ?_)
          intro v3 w3 hown3 hgrow3 hnil3
          have H3 := hideP (rd_grown2 HM H2 hgrow3 (by simpa using hown3))
          obtain ⟨gu, cu, rfl, hbu, hlu⟩ := own_shape hown3 (by omega)
          clear hown3 hgrow3 hnil3 hbu hlu
          go_wp2
          go_roundw
          case rel => exact ⟨k + 1, n + 1, ls ++ [s.data.toList.getD k 0], ms ++ [zmk mk], -1, by omega, by go_num, rfl, by omega, by omega, ⟨_, _, rfl⟩, ⟨_, _, rfl⟩, H3, hideP (by rw [HR.out, HD.out, rd_letter HDG.out])⟩
          case measure => simp [intOf]; omega
    · have hki : ¬ ((k : Int) < (s.size : Int)) := by omega
      obtain rfl : k = s.size := by omega
      obtain ⟨L, hL⟩ : ∃ L : ByteArray, L = ⟨ls.toArray⟩ := ⟨_, rfl⟩
      have HE : Hid (rd [] [] (-1) s.data.toList = some (ls, ms ++ [zmk mk])) := hideP (by rw [HR.out, drop_end]; rfl)
      have hcv0 : ∀ W : World, W.ownsRow w.heap.size 5 1 (.slice (some ⟨gl, 0, none⟩) n cl) n (Lib.byteCells ls) → (convert 22 9 (.slice (some ⟨gl, 0, none⟩) n cl)).run Try.prog W = .ok (.string L) W := by
        intro W hW
        rw [hL, ← HM.out.1.1]
        refine run_convert_bytes_back _ 22 9 5 ⟨gl, 0, none⟩ cl ls Try.underlying22 Try.underlying5 Try.underlying9 fun j hj => ?_
        have := World.ownsRow.cellAt hW j (by rw [Nat.mul_one, ← HM.out.1.1]; exact hj)
        rw [Addr.add_lit, Nat.zero_add, this]
        simp [Lib.byteCells, List.getElem?_map, List.getElem?_eq_getElem hj]
      have hcv := fun ob ty => hcv0 (wr.alloc (.cells ob ty)) (HM.out.2.1.alloc _)
      have hcv1 := hcv0 wr HM.out.2.1
      have HL := hideP hL
      have hR := HM.out.2.2.2.2.1
      have hRz : w.heap.size < wr.heap.size := (Array.getElem?_eq_some_iff.1 hR).1
      obtain ⟨M, hM⟩ : ∃ M, M = ms ++ [zmk mk] := ⟨_, rfl⟩
      have hMl : M.length = n + 1 := by rw [hM]; simp [HM.out.1.2]
      obtain ⟨pb, hpb⟩ : ∃ pb, pb = patB L M := ⟨_, rfl⟩
      have c1 : Hid (∀ W, Below wr.heap.size wr W → Calls Try.prog 12 #[patV L (.slice (some ⟨gm, 0, none⟩) (n + 1) cm)] W fun e w' => e = .returned (.bool pb) ∧ Below W.heap.size W w') := hideP (fun W hW => by
        rw [hpb]
        have hls : L.size = n := by rw [hL, ← HM.out.1.1]; rfl
        exact implPatternOk_big (Row.below (row_of_own (by rw [hM]; exact HM.out.2.2.1) hMl) hW) (by omega) (by omega))
      have HPB := hideP hpb
      have HMM := hideP hM
      have HMR : Hid (wr.ownsRow w.heap.size 2 1 (.slice (some ⟨gm, 0, none⟩) (n + 1) cm) (n + 1) (M.map (Value.int .i64))) := hideP (by rw [hM]; exact HM.out.2.2.1)
      have HML := hideP hMl
      have HRR := hideP hR
      have HBW := hideP HM.out.2.2.2.2.2
      clear hL hcv0 hR hM hMl hpb HM HR
      go_wp2_with fail
      refine (c1.out _ (below1 _ _)).mono ?_
      rintro e w2 ⟨rfl, hb2⟩
      have hR2 : w2.heap[w.heap.size]? = some (.cells #[.string ⟨#[]⟩, .slice none 0 0] 26 (0, 0)) := (hb2.block _ (by simp; omega)).trans (blockA HRR.out _)
      have hP2 : w2.heap[wr.heap.size]? = some (.cells #[.string L, .slice (some ⟨gm, 0, none⟩) (n + 1) cm] 26 (0, 0)) := (hb2.block _ (by simp)).trans (heap_alloc_last _ _)
      have hRz2 : w.heap.size < w2.heap.size := (Array.getElem?_eq_some_iff.1 hR2).1
      have hPz2 : wr.heap.size < w2.heap.size := (Array.getElem?_eq_some_iff.1 hP2).1
      have r0 : w2.cell? ⟨w.heap.size, 0, none⟩ = some (.string ⟨#[]⟩) := by rw [cell_of_row w2 _ _ _ _ _ hR2]; rfl
      have r1 : w2.cell? ⟨w.heap.size, 1, none⟩ = some (.slice none 0 0) := by rw [cell_of_row w2 _ _ _ _ _ hR2]; rfl
      have f0 : w2.frozen? ⟨w.heap.size, 0, none⟩ = false := frozen_of_row w2 _ _ _ _ hR2
      have f1 : w2.frozen? ⟨w.heap.size, 1, none⟩ = false := frozen_of_row w2 _ _ _ _ hR2
      have p0 : w2.cell? ⟨wr.heap.size, 0, none⟩ = some (.string L) := by rw [cell_of_row w2 _ _ _ _ _ hP2]; rfl
      have p1 : w2.cell? ⟨wr.heap.size, 1, none⟩ = some (.slice (some ⟨gm, 0, none⟩) (n + 1) cm) := by rw [cell_of_row w2 _ _ _ _ _ hP2]; rfl
      have B2 : Hid (Below w.heap.size w w2) := hideP (below_more HBW.out (below_more (below1 _ _) hb2 (by simp)) HBW.out.size)
      have HMR2 : Hid (w2.ownsRow w.heap.size 2 1 (.slice (some ⟨gm, 0, none⟩) (n + 1) cm) (n + 1) (M.map (Value.int .i64))) := hideP (own_at (HMR.out.alloc _) (fun g cur hg => (hb2.block g (Array.getElem?_eq_some_iff.1 hg).1).trans hg))
      have HT0 := hideP (two_at (two_set hR2 (.string ⟨#[]⟩) (.slice none 0 0)))
      have HT1 := hideP (two_at (two_set hR2 (.string L) (.slice (some ⟨gm, 0, none⟩) (n + 1) cm)))
      have HMR3 : Hid (((w2.setCell ⟨w.heap.size, 0, none⟩ (.string L)).setCell ⟨w.heap.size, 1, none⟩ (.slice (some ⟨gm, 0, none⟩) (n + 1) cm)).ownsRow w.heap.size 2 1 (.slice (some ⟨gm, 0, none⟩) (n + 1) cm) (n + 1) (M.map (Value.int .i64))) :=
        hideP (own_put (own_put HMR2.out hR2 (by decide)) (heap_setCell_same w2 _ 0 _ _ _ hR2) (by decide))
      have HB3 : Hid (∀ a b : Value, Below w.heap.size w ((w2.setCell ⟨w.heap.size, 0, none⟩ a).setCell ⟨w.heap.size, 1, none⟩ b)) := hideP (fun a b => Below.setCell (Below.setCell B2.out (p := ⟨w.heap.size, 0, none⟩) (by simp) a) (p := ⟨w.heap.size, 1, none⟩) (by simp) b)
      clear hR2 hP2 hb2
      cases pb
      · go_wp2
        obtain ⟨n0, n1, n2⟩ := read_none (readR_no HE.out (by rw [← HL.out, ← HMM.out]; exact HPB.out.symm))
        obtain ⟨t0, t1, t2⟩ := HT0.out
        have hB3 := HB3.out (.string ⟨#[]⟩) (.slice none 0 0)
        generalize ((w2.setCell ⟨w.heap.size, 0, none⟩ (.string ⟨#[]⟩)).setCell ⟨w.heap.size, 1, none⟩ (.slice none 0 0)) = W at t0 t1 t2 hB3 ⊢
        exact bodyPost_ret (v := .tuple #[patV ⟨#[]⟩ (.slice none 0 0), .bool false]) (by simp [results, Try.results10, go_sem, t0, t1]) rfl ⟨.slice none 0 0, by rw [n0, n2], by rw [n1]; exact World.ownsRow_nil _ _ _ _, hB3⟩
      · go_wp2
        obtain ⟨n0, n1, n2⟩ := read_some (readR_yes HE.out (by rw [← HL.out, ← HMM.out]; exact HPB.out.symm))
        obtain ⟨t0, t1, t2⟩ := HT1.out
        have hB3 := HB3.out (.string L) (.slice (some ⟨gm, 0, none⟩) (n + 1) cm)
        have hM3 := HMR3.out
        generalize ((w2.setCell ⟨w.heap.size, 0, none⟩ (.string L)).setCell ⟨w.heap.size, 1, none⟩ (.slice (some ⟨gm, 0, none⟩) (n + 1) cm)) = W at t0 t1 t2 hB3 hM3 ⊢
        exact bodyPost_ret (v := .tuple #[patV L (.slice (some ⟨gm, 0, none⟩) (n + 1) cm), .bool true]) (by simp [results, Try.results10, go_sem, t0, t1]) rfl ⟨_, by rw [n0, n2, ← HL.out], by rw [n1, ← HMM.out, HML.out]; exact hM3, hB3⟩
end Go.Proofs.Ytejigikcpmhhoaa
