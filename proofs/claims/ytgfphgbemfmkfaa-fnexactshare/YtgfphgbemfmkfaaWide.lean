/-
  The walks of the program's numbers of four words: times.
-/
import Derived.Test.YtgfphgbemfmkfaaProd
import Derived.Deep.QuietTactic
import Derived.BigQuiet
import Derived.WalkSmall
namespace Go.Proofs.Ytgfphgbemfmkfaa
open Go.RowKit
set_option linter.unusedVariables false
set_option linter.unusedSimpArgs false

theorem hideW {p : Prop} (h : p) : Hid p := h

abbrev cU (d : Nat) : Value := .int .u64 (d : Int)
abbrev wideV (a b c d : Nat) : Value := .agg #[cU a, cU b, cU c, cU d]
def D64 : Nat := 18446744073709551616

/-- A block of four words, free to be written. -/
def Arr (wr : World) (n a b c d : Nat) : Prop := wr.ownsRow 0 92 1 (.slice (some ⟨n, 0, none⟩) 4 4) 4 [cU a, cU b, cU c, cU d]

theorem Arr.cells {wr : World} {n a b c d : Nat} (h : Arr wr n a b c d) : wr.cell? ⟨n, 0, none⟩ = some (cU a) ∧ wr.cell? ⟨n, 1, none⟩ = some (cU b) ∧ wr.cell? ⟨n, 2, none⟩ = some (cU c) ∧ wr.cell? ⟨n, 3, none⟩ = some (cU d) :=
  ⟨World.ownsRow.cellAt h 0 (by omega), World.ownsRow.cellAt h 1 (by omega), World.ownsRow.cellAt h 2 (by omega), World.ownsRow.cellAt h 3 (by omega)⟩
theorem Arr.free {wr : World} {n a b c d : Nat} (h : Arr wr n a b c d) (j : Nat) : wr.frozen? ⟨n, j, none⟩ = false := World.ownsRow.frozenAt h j
theorem Arr.set0 {wr : World} {n a b c d : Nat} (h : Arr wr n a b c d) (x : Nat) : Arr (wr.setCell ⟨n, 0, none⟩ (cU x)) n x b c d := (World.ownsRow.stored h 0 (cU x)).1
theorem Arr.set1 {wr : World} {n a b c d : Nat} (h : Arr wr n a b c d) (x : Nat) : Arr (wr.setCell ⟨n, 1, none⟩ (cU x)) n a x c d := (World.ownsRow.stored h 1 (cU x)).1
theorem Arr.set2 {wr : World} {n a b c d : Nat} (h : Arr wr n a b c d) (x : Nat) : Arr (wr.setCell ⟨n, 2, none⟩ (cU x)) n a b x d := (World.ownsRow.stored h 2 (cU x)).1
theorem Arr.set3 {wr : World} {n a b c d : Nat} (h : Arr wr n a b c d) (x : Nat) : Arr (wr.setCell ⟨n, 3, none⟩ (cU x)) n a b c x := (World.ownsRow.stored h 3 (cU x)).1
theorem Arr.other {wr : World} {n n' a b c d : Nat} (h : Arr wr n a b c d) {a' b' c' d' : Nat} (h' : Arr wr n' a' b' c' d') (hne : n ≠ n') (j : Nat) (u : Value) : Arr (wr.setCell ⟨n', j, none⟩ u) n a b c d :=
  World.ownsRow.kept h (World.ownsRow.stored h' j u).2 (Or.inr (by simp [Value.ownBlock]; exact hne))
theorem Arr.alloc {wr : World} {n a b c d : Nat} (h : Arr wr n a b c d) (o : Obj) : Arr (wr.alloc o) n a b c d := World.ownsRow.alloc h o
theorem arr_new (w : World) (a b c d : Nat) : Arr (w.alloc (.cells #[cU a, cU b, cU c, cU d] 92)) w.heap.size a b c d := World.ownsRow_lit w #[cU a, cU b, cU c, cU d] 4 (Nat.zero_le _) (by decide) rfl

theorem four_below {B : Nat} {T w' : World} {g : Nat} (h : Below B T w') (hg : B ≤ g) (v0 v1 v2 v3 : Value) :
    Below B T ((((w'.setCell ⟨g, 0, none⟩ v0).setCell ⟨g, 1, none⟩ v1).setCell ⟨g, 2, none⟩ v2).setCell ⟨g, 3, none⟩ v3) :=
  (((h.setCell hg v0).setCell hg v1).setCell hg v2).setCell hg v3
theorem lt_of_cellW {w : World} {b o : Nat} {v : Value} (h : w.cell? ⟨b, o, none⟩ = some v) : b < w.heap.size := by
  by_cases hb : b < w.heap.size
  · exact hb
  · exfalso
    rw [World.cell?] at h
    simp [Array.getElem?_eq_none (show w.heap.size ≤ b by omega)] at h

/-- One word times m and the carry. -/
theorem word_step {x m c : Nat} (hx : x < 18446744073709551616) (hm : m < 18446744073709551616) (hc : c < 18446744073709551616) : x * m + c < 18446744073709551616 * 18446744073709551616 := by
  have := Nat.mul_le_mul (show x ≤ 18446744073709551615 by omega) (show m ≤ 18446744073709551615 by omega)
  have e : (18446744073709551615 : Nat) * 18446744073709551615 = 340282366920938463426481119284349108225 := by decide
  have e' : (18446744073709551616 : Nat) * 18446744073709551616 = 340282366920938463463374607431768211456 := by decide
  omega

/-- What the round makes of a word: either no carry out of the low word, or one. -/
theorem round_words {x m c : Nat} (hx : x < 18446744073709551616) (hm : m < 18446744073709551616) (hc : c < 18446744073709551616) :
    ∃ lo hi r, lo = x * m % 18446744073709551616 ∧ hi = x * m / 18446744073709551616 ∧ r = (x * m + c) % 18446744073709551616 ∧ IntKind.u64.wrap ((lo : Int) + (c : Int)) = (r : Int) ∧ lo < 18446744073709551616 ∧ hi ≤ 18446744073709551614 ∧ r < 18446744073709551616 ∧
      ((lo ≤ r ∧ hi = (x * m + c) / 18446744073709551616) ∨ (r < lo ∧ hi + 1 = (x * m + c) / 18446744073709551616)) := by
  have h := word_step hx hm hc
  have h0 := Nat.mul_le_mul (show x ≤ 18446744073709551615 by omega) (show m ≤ 18446744073709551615 by omega)
  have e : (18446744073709551615 : Nat) * 18446744073709551615 = 340282366920938463426481119284349108225 := by decide
  generalize x * m = p at *
  refine ⟨_, _, _, rfl, rfl, rfl, ?_, by omega, by omega, by omega, ?_⟩
  · rw [IntKind.wrap_u64]; omega
  · omega

/-- The words of a product, one by one. -/
def carry1 (a m : Nat) : Nat := a * m / 18446744073709551616
def carry2 (a b m : Nat) : Nat := (b * m + carry1 a m) / 18446744073709551616
def carry3 (a b c m : Nat) : Nat := (c * m + carry2 a b m) / 18446744073709551616
def out0 (a m : Nat) : Nat := a * m % 18446744073709551616
def out1 (a b m : Nat) : Nat := (b * m + carry1 a m) % 18446744073709551616
def out2 (a b c m : Nat) : Nat := (c * m + carry2 a b m) % 18446744073709551616
def out3 (a b c d m : Nat) : Nat := (d * m + carry3 a b c m) % 18446744073709551616

def wideN (a b c d : Nat) : Nat := a + 18446744073709551616 * (b + 18446744073709551616 * (c + 18446744073709551616 * d))

theorem wide_mul (a b c d m : Nat) (h : wideN a b c d * m < 18446744073709551616 ^ 4) : wideN (out0 a m) (out1 a b m) (out2 a b c m) (out3 a b c d m) = wideN a b c d * m := by
  have e : (18446744073709551616 : Nat) ^ 4 = 115792089237316195423570985008687907853269984665640564039457584007913129639936 := by decide
  rw [e] at h
  have e2 : wideN a b c d * m = a * m + 18446744073709551616 * (b * m + 18446744073709551616 * (c * m + 18446744073709551616 * (d * m))) := by
    unfold wideN
    simp only [Nat.add_mul, Nat.mul_assoc]
  rw [e2] at h ⊢
  unfold wideN out0 out1 out2 out3 carry3 carry2 carry1
  generalize a * m = A at *
  generalize b * m = B at *
  generalize c * m = C at *
  generalize d * m = E at *
  omega

theorem carry_lt {x m c : Nat} (hx : x < 18446744073709551616) (hm : m < 18446744073709551616) (hc : c < 18446744073709551616) : (x * m + c) / 18446744073709551616 < 18446744073709551616 := by
  have := word_step hx hm hc
  generalize x * m = p at *
  omega
theorem carry1_lt {a m : Nat} (ha : a < 18446744073709551616) (hm : m < 18446744073709551616) : carry1 a m < 18446744073709551616 := carry_lt (c := 0) ha hm (by decide)
theorem carry2_lt {a b m : Nat} (ha : a < 18446744073709551616) (hb : b < 18446744073709551616) (hm : m < 18446744073709551616) : carry2 a b m < 18446744073709551616 := carry_lt hb hm (carry1_lt ha hm)
theorem carry3_lt {a b c m : Nat} (ha : a < 18446744073709551616) (hb : b < 18446744073709551616) (hc : c < 18446744073709551616) (hm : m < 18446744073709551616) : carry3 a b c m < 18446744073709551616 := carry_lt hc hm (carry2_lt ha hb hm)

def TimesAt (a b c d m : Nat) (w wr : World) (s5 s9 : Value) : Prop :=
  Below w.heap.size w wr ∧ Arr wr (w.heap.size + 1) 0 0 0 0 ∧
  ((s9 = .int .i64 0 ∧ s5 = cU 0 ∧ Arr wr w.heap.size a b c d) ∨
   (s9 = .int .i64 1 ∧ s5 = cU (carry1 a m) ∧ Arr wr w.heap.size (out0 a m) b c d) ∨
   (s9 = .int .i64 2 ∧ s5 = cU (carry2 a b m) ∧ Arr wr w.heap.size (out0 a m) (out1 a b m) c d) ∨
   (s9 = .int .i64 3 ∧ s5 = cU (carry3 a b c m) ∧ Arr wr w.heap.size (out0 a m) (out1 a b m) (out2 a b c m) d) ∨
   (s9 = .int .i64 4 ∧ Arr wr w.heap.size (out0 a m) (out1 a b m) (out2 a b c m) (out3 a b c d m)))

set_option maxHeartbeats 2000000 in
theorem wideTimes_any (a b c d m : Nat) (w : World) (ha : a < 18446744073709551616) (hb : b < 18446744073709551616) (hc : c < 18446744073709551616) (hd : d < 18446744073709551616) (hm : m < 18446744073709551616) :
    Calls Try.prog 67 #[wideV a b c d, cU m] w fun e w' => e = .returned (wideV (out0 a m) (out1 a b m) (out2 a b c m) (out3 a b c d m)) ∧ Below w.heap.size w w' := by
  have hat : TimesAt a b c d m w ((w.alloc (.cells #[cU a, cU b, cU c, cU d] 92)).alloc (.cells #[cU 0, cU 0, cU 0, cU 0] 92)) (cU 0) (.int .i64 0) := by
    refine ⟨((Below.refl _ _).alloc (Nat.le_refl _) _).alloc (by simp) _, ?_, .inl ⟨rfl, rfl, (arr_new w a b c d).alloc _⟩⟩
    have := arr_new (w.alloc (.cells #[cU a, cU b, cU c, cU d] 92)) 0 0 0 0
    simpa using this
  have HAT := hideW hat
  clear hat
  go_enter Try.func67, Try.ntmps67
  go_wp2_with fail
  go_loopw [5, 6, 7, 8, 9] (fun s5 _ _ _ s9 wr => TimesAt a b c d m w wr s5 s9) (fun _ _ _ _ s9 _ => 4 - (intOf s9).toNat)
  case atStart => exact HAT.out
  case round =>
    obtain ⟨hbel, hres, h | h | h | h | h⟩ := hrel
    · obtain ⟨rfl, rfl, harr⟩ := h
      obtain ⟨q0, q1, q2, q3⟩ := harr.cells
      have qf := harr.free
      have HARR := hideW harr
      have HRES := hideW hres
      have HBEL := hideW hbel
      clear harr hres hbel
      have C := hideW (product_any a m wr ha hm)
      obtain ⟨lo, e1⟩ : ∃ lo, lo = a * m % 18446744073709551616 := ⟨_, rfl⟩
      obtain ⟨hi, e2⟩ : ∃ hi, hi = a * m / 18446744073709551616 := ⟨_, rfl⟩
      rw [← e1, ← e2] at C
      have l1 : lo < 18446744073709551616 := by omega
      have E1 := hideW e1
      have E2 := hideW e2
      clear e1 e2
      go_wp2_with (go_at_call 61; refine C.out.mono ?_; rintro e w' ⟨rfl, rfl⟩)
      go_roundw
      case rel =>
        have e1 : out0 a m = lo := E1.out.symm
        have e2 : carry1 a m = hi := E2.out.symm
        refine ⟨HBEL.out.setCell (Nat.le_refl _) _, HRES.out.other HARR.out (by omega) _ _, .inr (.inl ⟨rfl, by rw [e2], ?_⟩)⟩
        rw [e1]
        exact HARR.out.set0 lo
      case measure => simp [intOf]
    · obtain ⟨rfl, rfl, harr⟩ := h
      obtain ⟨q0, q1, q2, q3⟩ := harr.cells
      have qf := harr.free
      have HARR := hideW harr
      have HRES := hideW hres
      have HBEL := hideW hbel
      clear harr hres hbel
      have hcl := carry1_lt ha hm
      obtain ⟨cy, hcy⟩ : ∃ cy, cy = carry1 a m := ⟨_, rfl⟩
      rw [← hcy] at hcl ⊢
      obtain ⟨lo, hi, r, e1, e2, e3, hw, l1, l2, l3, hcase⟩ := round_words hb hm hcl
      have C := hideW (product_any b m wr hb hm)
      rw [← e1, ← e2] at C
      have E3 : Hid (out1 a b m = r) := by rw [e3, hcy]; rfl
      have E4 : Hid ((lo ≤ r ∧ hi = (b * m + carry1 a m) / 18446744073709551616) ∨ (r < lo ∧ hi + 1 = (b * m + carry1 a m) / 18446744073709551616)) := by rw [← hcy]; exact hcase
      clear e1 e2 e3 hcy hcase
      rcases Nat.lt_or_ge r lo with g1 | g1
      · go_wp2_with (go_at_call 61; refine C.out.mono ?_; rintro e w' ⟨rfl, rfl⟩)
        go_roundw
        case rel =>
          have ee : (b * m + carry1 a m) / 18446744073709551616 = hi + 1 := by rcases E4.out with h | h <;> omega
          have e3 := E3.out
          refine ⟨HBEL.out.setCell (Nat.le_refl _) _, HRES.out.other HARR.out (by omega) _ _, .inr (.inr (.inl ⟨rfl, by show _ = cU ((b * m + carry1 a m) / 18446744073709551616); rw [ee]; simp [cU], ?_⟩))⟩
          rw [e3]
          exact HARR.out.set1 r
        case measure => simp [intOf]
      · go_wp2_with (go_at_call 61; refine C.out.mono ?_; rintro e w' ⟨rfl, rfl⟩)
        go_roundw
        case rel =>
          have ee : (b * m + carry1 a m) / 18446744073709551616 = hi := by rcases E4.out with h | h <;> omega
          have e3 := E3.out
          refine ⟨HBEL.out.setCell (Nat.le_refl _) _, HRES.out.other HARR.out (by omega) _ _, .inr (.inr (.inl ⟨rfl, by show _ = cU ((b * m + carry1 a m) / 18446744073709551616); rw [ee], ?_⟩))⟩
          rw [e3]
          exact HARR.out.set1 r
        case measure => simp [intOf]
    · obtain ⟨rfl, rfl, harr⟩ := h
      obtain ⟨q0, q1, q2, q3⟩ := harr.cells
      have qf := harr.free
      have HARR := hideW harr
      have HRES := hideW hres
      have HBEL := hideW hbel
      clear harr hres hbel
      have hcl := carry2_lt ha hb hm
      obtain ⟨cy, hcy⟩ : ∃ cy, cy = carry2 a b m := ⟨_, rfl⟩
      rw [← hcy] at hcl ⊢
      obtain ⟨lo, hi, r, e1, e2, e3, hw, l1, l2, l3, hcase⟩ := round_words hc hm hcl
      have C := hideW (product_any c m wr hc hm)
      rw [← e1, ← e2] at C
      have E3 : Hid (out2 a b c m = r) := by rw [e3, hcy]; rfl
      have E4 : Hid ((lo ≤ r ∧ hi = (c * m + carry2 a b m) / 18446744073709551616) ∨ (r < lo ∧ hi + 1 = (c * m + carry2 a b m) / 18446744073709551616)) := by rw [← hcy]; exact hcase
      clear e1 e2 e3 hcy hcase
      rcases Nat.lt_or_ge r lo with g1 | g1
      · go_wp2_with (go_at_call 61; refine C.out.mono ?_; rintro e w' ⟨rfl, rfl⟩)
        go_roundw
        case rel =>
          have ee : (c * m + carry2 a b m) / 18446744073709551616 = hi + 1 := by rcases E4.out with h | h <;> omega
          have e3 := E3.out
          refine ⟨HBEL.out.setCell (Nat.le_refl _) _, HRES.out.other HARR.out (by omega) _ _, .inr (.inr (.inr (.inl ⟨rfl, by show _ = cU ((c * m + carry2 a b m) / 18446744073709551616); rw [ee]; simp [cU], ?_⟩)))⟩
          rw [e3]
          exact HARR.out.set2 r
        case measure => simp [intOf]
      · go_wp2_with (go_at_call 61; refine C.out.mono ?_; rintro e w' ⟨rfl, rfl⟩)
        go_roundw
        case rel =>
          have ee : (c * m + carry2 a b m) / 18446744073709551616 = hi := by rcases E4.out with h | h <;> omega
          have e3 := E3.out
          refine ⟨HBEL.out.setCell (Nat.le_refl _) _, HRES.out.other HARR.out (by omega) _ _, .inr (.inr (.inr (.inl ⟨rfl, by show _ = cU ((c * m + carry2 a b m) / 18446744073709551616); rw [ee], ?_⟩)))⟩
          rw [e3]
          exact HARR.out.set2 r
        case measure => simp [intOf]
    · obtain ⟨rfl, rfl, harr⟩ := h
      obtain ⟨q0, q1, q2, q3⟩ := harr.cells
      have qf := harr.free
      have HARR := hideW harr
      have HRES := hideW hres
      have HBEL := hideW hbel
      clear harr hres hbel
      have hcl := carry3_lt ha hb hc hm
      obtain ⟨cy, hcy⟩ : ∃ cy, cy = carry3 a b c m := ⟨_, rfl⟩
      rw [← hcy] at hcl ⊢
      obtain ⟨lo, hi, r, e1, e2, e3, hw, l1, l2, l3, hcase⟩ := round_words hd hm hcl
      have C := hideW (product_any d m wr hd hm)
      rw [← e1, ← e2] at C
      have E3 : Hid (out3 a b c d m = r) := by rw [e3, hcy]; rfl
      have E4 : Hid ((lo ≤ r ∧ hi = (d * m + carry3 a b c m) / 18446744073709551616) ∨ (r < lo ∧ hi + 1 = (d * m + carry3 a b c m) / 18446744073709551616)) := by rw [← hcy]; exact hcase
      clear e1 e2 e3 hcy hcase
      rcases Nat.lt_or_ge r lo with g1 | g1
      · go_wp2_with (go_at_call 61; refine C.out.mono ?_; rintro e w' ⟨rfl, rfl⟩)
        go_roundw
        case rel =>
          have ee : (d * m + carry3 a b c m) / 18446744073709551616 = hi + 1 := by rcases E4.out with h | h <;> omega
          have e3 := E3.out
          refine ⟨HBEL.out.setCell (Nat.le_refl _) _, HRES.out.other HARR.out (by omega) _ _, .inr (.inr (.inr (.inr ⟨rfl, ?_⟩)))⟩
          rw [e3]
          exact HARR.out.set3 r
        case measure => simp [intOf]
      · go_wp2_with (go_at_call 61; refine C.out.mono ?_; rintro e w' ⟨rfl, rfl⟩)
        go_roundw
        case rel =>
          have ee : (d * m + carry3 a b c m) / 18446744073709551616 = hi := by rcases E4.out with h | h <;> omega
          have e3 := E3.out
          refine ⟨HBEL.out.setCell (Nat.le_refl _) _, HRES.out.other HARR.out (by omega) _ _, .inr (.inr (.inr (.inr ⟨rfl, ?_⟩)))⟩
          rw [e3]
          exact HARR.out.set3 r
        case measure => simp [intOf]
    · obtain ⟨rfl, harr⟩ := h
      obtain ⟨q0, q1, q2, q3⟩ := harr.cells
      obtain ⟨r0, r1, r2, r3⟩ := hres.cells
      have rf := hres.free
      have hz := lt_of_cellW r0
      have HBEL := hideW hbel
      clear harr hres hbel HAT
      go_wp2
      exact bodyPost_ret (v := wideV (out0 a m) (out1 a b m) (out2 a b c m) (out3 a b c d m)) (by simp [results, Try.results67, go_sem, r0, r1, r2, r3]) rfl ⟨rfl, four_below HBEL.out (Nat.le_succ _) _ _ _ _⟩
end Go.Proofs.Ytgfphgbemfmkfaa
