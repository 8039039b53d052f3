/-
  The specification's list that no delimiter follows, as a walk.
-/
import Derived.Test.YtbceblgnjicdcaaGrp
namespace Go.Proofs.Ytbceblgnjicdcaa
open Go.RowKit
set_option linter.unusedVariables false
set_option linter.unusedSimpArgs false

def isSp (t : Tk) : Bool := t.c == 3
def plain (rest : List Tk) : Int × List Tk × List Tk :=
  match rest.dropWhile isSp with
  | [] => (1, [], [])
  | t :: r => if t.c = 2 then (3, [], r) else if t.c = 1 then (match grpGo 1 r with | some (a, r') => (0, a, r') | none => (1, [], [])) else (0, [t], r)

def tkRow (w : World) (g : Nat) (t : Tk) : Prop := w.heap[g]? = some (.cells #[.int .i64 t.c, .int .i64 t.h, .string t.s] 31)
theorem tkRow.cells {w : World} {g : Nat} {t : Tk} (h : tkRow w g t) : w.cell? ⟨g, 0, none⟩ = some (.int .i64 t.c) ∧ w.cell? ⟨g, 1, none⟩ = some (.int .i64 t.h) ∧ w.cell? ⟨g, 2, none⟩ = some (.string t.s) ∧ g < w.heap.size ∧ ∀ o, w.frozen? ⟨g, o, none⟩ = false := by
  refine ⟨?_, ?_, ?_, (Array.getElem?_eq_some_iff.1 h).1, frozen_row h⟩ <;> (rw [cell_of_row w g _ _ 31 _ h]; rfl)
theorem tkRow.set {w : World} {g : Nat} {t : Tk} (h : tkRow w g t) (u : Tk) : tkRow (((w.setCell ⟨g, 0, none⟩ (.int .i64 u.c)).setCell ⟨g, 1, none⟩ (.int .i64 u.h)).setCell ⟨g, 2, none⟩ (.string u.s)) g u := by
  have e1 := heap_setCell_same _ g 0 _ 31 (.int .i64 u.c) h
  have e2 := heap_setCell_same _ g 1 _ 31 (.int .i64 u.h) e1
  have e3 := heap_setCell_same _ g 2 _ 31 (.string u.s) e2
  exact e3

def PInv (w : World) (s T : Nat) (rest : List Tk) (wr : World) : Prop :=
  ∃ (t : Tk) (r : List Tk) (c : Int), tkRow wr T t ∧ St wr s r c ∧ Fr s w wr ∧ ((c = 0 ∧ rest.dropWhile isSp = (t :: r).dropWhile isSp ∧ r.length < rest.length) ∨ (c = 1 ∧ t = Tk.none ∧ r = [] ∧ rest.dropWhile isSp = []))

theorem plain_none {rest : List Tk} (h : rest.dropWhile isSp = []) : plain rest = (1, [], []) := by unfold plain; rw [h]
theorem plain_close {rest r : List Tk} {t : Tk} (h : rest.dropWhile isSp = t :: r) (h2 : t.c = 2) : plain rest = (3, [], r) := by unfold plain; rw [h]; simp [h2]
theorem plain_one {rest r : List Tk} {t : Tk} (h : rest.dropWhile isSp = t :: r) (h2 : t.c ≠ 2) (h1 : t.c ≠ 1) : plain rest = (0, [t], r) := by unfold plain; rw [h]; simp [h2, h1]
theorem plain_grp {rest r a r' : List Tk} {t : Tk} (h : rest.dropWhile isSp = t :: r) (h1 : t.c = 1) (hg : grpGo 1 r = some (a, r')) : plain rest = (0, a, r') := by unfold plain; rw [h]; simp [h1, hg]
theorem plain_end {rest r : List Tk} {t : Tk} (h : rest.dropWhile isSp = t :: r) (h1 : t.c = 1) (hg : grpGo 1 r = none) : plain rest = (1, [], []) := by unfold plain; rw [h]; simp [h1, hg]
theorem drop_sp {t : Tk} {r : List Tk} (h : t.c = 3) : (t :: r).dropWhile isSp = r.dropWhile isSp := by simp [isSp, h]
theorem drop_no {t : Tk} {r : List Tk} (h : t.c ≠ 3) : (t :: r).dropWhile isSp = t :: r := by simp [isSp, h]

set_option maxRecDepth 100000 in
set_option maxHeartbeats 4000000 in
theorem l4Plain_any {w : World} {s : Nat} {rest : List Tk} (h : St w s rest 0) (hl : rest.length ≤ 20000) :
    Calls Try.prog 106 #[ptr s] w fun e w' => ∃ v n xs, e = .returned v ∧ w'.ownsRow w.heap.size 31 3 v n (flat xs) ∧ v ≠ .slice none 0 0 ∧ St w' s (plain rest).2.2 (plain rest).1 ∧ ((plain rest).1 = 0 → xs = (plain rest).2.1) ∧ Fr s w w' := by
  have hsz := St.lt h
  have H : Hid (St w s rest 0) := h
  clear h
  go_enter Try.func106, Try.ntmps106
  go_wp2_with fail
  refine (l4Take_any H (by omega)).mono ?_
  rintro e w1 ⟨rfl, hs1, hf1⟩
  have z1 : w.heap.size ≤ w1.heap.size := hf1.size
  have P1 : Hid (∀ W, Below w1.heap.size w1 W → St W s (tkR rest 0) (tkC rest 0) ∧ Fr s w W) := fun W hW => ⟨St.fr hs1 hW, Fr.more hf1 (hW.mono z1) hsz⟩
  clear hs1 hf1
  obtain ⟨t, ht⟩ : ∃ t, t = tkT rest 0 := ⟨_, rfl⟩
  rw [← ht]
  have HT : Hid (t = tkT rest 0) := ht
  clear ht
  obtain ⟨tc, th, ts⟩ := t
  rw [show (⟨tc, th, ts⟩ : Tk).v = tokV tc th ts from rfl]
  obtain ⟨T, hT⟩ : ∃ T, T = w1.heap.size := ⟨_, rfl⟩
  go_wp2_with fail
  rw [← hT]
  have hTz : w.heap.size ≤ T := by omega
  have START : Hid (PInv w s T rest (w1.alloc (.cells #[.int .i64 tc, .int .i64 th, .string ts] 31))) := by
    have q := P1 _ (below1 w1 (.cells #[.int .i64 tc, .int .i64 th, .string ts] 31))
    have row : tkRow (w1.alloc (.cells #[.int .i64 tc, .int .i64 th, .string ts] 31)) T ⟨tc, th, ts⟩ := by rw [hT]; exact Array.getElem?_push_size
    have hrc : rest = [] ∨ ∃ t r', rest = t :: r' := by
      cases rest with
      | nil => exact .inl rfl
      | cons t r' => exact .inr ⟨t, r', rfl⟩
    rcases hrc with rfl | ⟨t', r', rfl⟩
    · exact ⟨_, [], 1, row, q.1, q.2, .inr ⟨rfl, HT, rfl, rfl⟩⟩
    · have h3 : tkC (t' :: r') 0 = 0 := by simp [tkC]
      rw [h3] at q
      have ht' : (⟨tc, th, ts⟩ : Tk) = t' := HT
      exact ⟨_, r', 0, row, q.1, q.2, .inl ⟨rfl, by rw [ht'], by simp⟩⟩
  clear P1 HT hT
  go_loopw [] (fun wr => Hid (PInv w s T rest wr)) (fun wr => stM wr s)
  case atStart => exact START
  case round =>
    obtain ⟨t, r, c, hrow, hst, hfr, hcase⟩ := hrel
    obtain ⟨g0, g1, g2, hTr, gf⟩ := hrow.cells
    have HROW : Hid (tkRow wr T t) := hrow
    have HST : Hid (St wr s r c) := hst
    have HFR : Hid (Fr s w wr) := hfr
    have hc3 := St.cell hst
    have hsr : s < wr.heap.size := St.lt hst
    have hwz : w.heap.size ≤ wr.heap.size := hfr.size
    obtain ⟨c', h', s'⟩ := t
    dsimp only at g0 g1 g2
    clear hrow hst hfr START
    have OWN : Hid (∀ W : World, w.heap.size ≤ W.heap.size → (W.alloc (.cells #[.int .i64 c', .int .i64 h', .string s'] 31)).ownsRow w.heap.size 31 3 (.slice (some ⟨W.heap.size, 0, none⟩) 1 1) 1 (flat [⟨c', h', s'⟩])) := fun W hW => ⟨rfl, .inr ⟨W.heap.size, 1, #[.int .i64 c', .int .i64 h', .string s'], rfl, hW, heap_alloc_new W _, Nat.le_refl _, by decide, rfl, rfl⟩⟩
    have BEL : Hid (∀ (W : World) o, w.heap.size ≤ W.heap.size → Below w.heap.size W (W.alloc o)) := fun W o hW => (Below.refl _ _).alloc hW _
    rcases hcase with ⟨rfl, hd, hlen⟩ | ⟨rfl, htn, rfl, hd⟩
    · by_cases h3 : c' = 3
      · have HD : Hid (rest.dropWhile isSp = r.dropWhile isSp) := by show _ = _; rw [hd, drop_sp h3]
        subst h3
        clear hd OWN
        go_wp2_with fail
        refine (l4Take_any HST (by omega)).mono ?_
        rintro e w2 ⟨rfl, hs2, hf2⟩
        have row2 : tkRow w2 T ⟨3, h', s'⟩ := by unfold tkRow; rw [hf2.2.block T (by omega) hTr]; exact HROW
        obtain ⟨k0, k1, k2, kT, kf⟩ := row2.cells
        have HR2 : Hid (tkRow w2 T ⟨3, h', s'⟩) := row2
        have F2 : Hid (Fr s w w2) := HFR.trans hf2
        have S2 : Hid (St w2 s (tkR r 0) (tkC r 0)) := hs2
        clear hs2 hf2 row2
        obtain ⟨u, hu⟩ : ∃ u, u = tkT r 0 := ⟨_, rfl⟩
        rw [← hu]
        have HU : Hid (u = tkT r 0) := hu
        clear hu
        obtain ⟨uc, uh, us⟩ := u
        rw [show (⟨uc, uh, us⟩ : Tk).v = tokV uc uh us from rfl]
        dsimp only at k0 k1 k2
        have NEXT : Hid (PInv w s T rest (((w2.setCell ⟨T, 0, none⟩ (.int .i64 uc)).setCell ⟨T, 1, none⟩ (.int .i64 uh)).setCell ⟨T, 2, none⟩ (.string us)) ∧ stM (((w2.setCell ⟨T, 0, none⟩ (.int .i64 uc)).setCell ⟨T, 1, none⟩ (.int .i64 uh)).setCell ⟨T, 2, none⟩ (.string us)) s < stM wr s) := by
          have b3 : Below w.heap.size w2 (((w2.setCell ⟨T, 0, none⟩ (.int .i64 uc)).setCell ⟨T, 1, none⟩ (.int .i64 uh)).setCell ⟨T, 2, none⟩ (.string us)) := (((Below.refl _ _).setCell (p := ⟨T, 0, none⟩) hTz _).setCell (p := ⟨T, 1, none⟩) hTz _).setCell (p := ⟨T, 2, none⟩) hTz _
          have s3 := St.bel S2 (b3.mono hsz)
          have f3 := Fr.more F2 b3 hsz
          have row3 := tkRow.set HR2 ⟨uc, uh, us⟩
          rw [St.m s3, St.m HST]
          have hrc : r = [] ∨ ∃ t r', r = t :: r' := by
            cases r with
            | nil => exact .inl rfl
            | cons t r' => exact .inr ⟨t, r', rfl⟩
          rcases hrc with rfl | ⟨t', r', rfl⟩
          · exact ⟨⟨_, [], 1, row3, s3, f3, .inr ⟨rfl, HU, rfl, HD⟩⟩, by simp [tkC, tkR]⟩
          · have h3 : tkC (t' :: r') 0 = 0 := by simp [tkC]
            rw [h3] at s3 ⊢
            have ht' : (⟨uc, uh, us⟩ : Tk) = t' := HU
            exact ⟨⟨_, r', 0, row3, s3, f3, .inl ⟨rfl, by rw [ht']; exact HD, by simp at hlen; omega⟩⟩, by simp [tkR]⟩
        go_wp2
        go_roundw
        case rel => exact NEXT.1
        case measure => exact NEXT.2
      · have HD : Hid (rest.dropWhile isSp = ⟨c', h', s'⟩ :: r) := by show _ = _; rw [hd, drop_no h3]
        have e3 : (c' == 3) = false := beq_eq_false_iff_ne.2 h3
        clear hd
        by_cases h2 : c' = 2
        · have HP : Hid (plain rest = (3, [], r)) := plain_close HD h2
          subst h2
          go_wp2_with fail
          refine (l4Err_st HST 3).mono ?_
          rintro e w2 ⟨rfl, hs2, hf2⟩
          have row2 : tkRow w2 T ⟨2, h', s'⟩ := by unfold tkRow; rw [hf2.2.block T (by omega) hTr]; exact HROW
          obtain ⟨k0, k1, k2, kT, kf⟩ := row2.cells
          have F2 : Hid (Fr s w w2) := HFR.trans hf2
          have S2 : Hid (St w2 s r 3) := hs2
          have z2 : w.heap.size ≤ w2.heap.size := F2.size
          clear hs2 hf2 row2
          dsimp only at k0 k1 k2
          go_wp2
          go_ret
          refine ⟨_, 1, [⟨2, h', s'⟩], rfl, OWN w2 z2, by simp, ?_, ?_, ?_⟩
          · rw [show plain rest = _ from HP]; exact St.bel S2 ((BEL w2 _ z2).mono hsz)
          · rw [show plain rest = _ from HP]; intro hh; simp at hh
          · exact Fr.more F2 (BEL w2 _ z2) hsz
        · have e2 : (c' == 2) = false := beq_eq_false_iff_ne.2 h2
          by_cases h1 : c' = 1
          · have HD1 : Hid (rest.dropWhile isSp = ⟨c', h', s'⟩ :: r ∧ c' = 1) := ⟨HD, h1⟩
            subst h1
            go_wp2_with fail
            refine (l4Group_any HST (by omega)).mono ?_
            rintro e w2 ⟨v, n, xs, rfl, ho2, hne2, hg2, hf2⟩
            have Q : Hid (∃ n xs, w2.ownsRow w.heap.size 31 3 v n (flat xs) ∧ v ≠ .slice none 0 0 ∧ St w2 s (plain rest).2.2 (plain rest).1 ∧ ((plain rest).1 = 0 → xs = (plain rest).2.1) ∧ Fr s w w2) := by
              refine ⟨n, xs, own_mono ho2 hwz, hne2, ?_⟩
              rcases hg2 with ⟨r', hg, hs⟩ | ⟨hg, hs⟩
              · rw [plain_grp HD1.1 rfl hg]
                exact ⟨hs, fun _ => rfl, HFR.trans hf2⟩
              · rw [plain_end HD1.1 rfl hg]
                exact ⟨hs, fun hh => by simp at hh, HFR.trans hf2⟩
            clear ho2 hne2 hg2 hf2
            go_wp2
            go_ret
            obtain ⟨n', xs', q⟩ := Q
            exact ⟨v, n', xs', rfl, q⟩
          · have HP : Hid (plain rest = (0, [⟨c', h', s'⟩], r)) := plain_one HD h2 h1
            have e1 : (c' == 1) = false := beq_eq_false_iff_ne.2 h1
            go_wp2
            go_ret
            refine ⟨_, 1, [⟨c', h', s'⟩], rfl, OWN wr hwz, by simp, ?_, ?_, ?_⟩
            · rw [show plain rest = _ from HP]; exact St.bel HST ((BEL wr _ hwz).mono hsz)
            · rw [show plain rest = _ from HP]; intro _; rfl
            · exact Fr.more HFR (BEL wr _ hwz) hsz
    · have HP : Hid (plain rest = (1, [], [])) := plain_none hd
      clear hd
      have hc0 : c' = 0 := congrArg Tk.c htn
      clear htn
      subst hc0
      go_wp2
      go_ret
      refine ⟨_, 1, [⟨0, h', s'⟩], rfl, OWN wr hwz, by simp, ?_, ?_, ?_⟩
      · rw [show plain rest = _ from HP]; exact St.bel HST ((BEL wr _ hwz).mono hsz)
      · rw [show plain rest = _ from HP]; intro hh; simp at hh
      · exact Fr.more HFR (BEL wr _ hwz) hsz
end Go.Proofs.Ytbceblgnjicdcaa
