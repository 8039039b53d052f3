/-
  An atom as the program keeps it: its head, whether it can be.
-/
import Derived.Test.YtfcfihlkckdmbaaCut
import Derived.Test.YtfcfihlkckdmbaaSml
import Derived.BigQuiet
import Derived.Deep.QuietTactic
namespace Go.Proofs.Ytfcfihlkckdmbaa
open Go.RowKit
set_option linter.unusedVariables false
set_option linter.unusedSimpArgs false

/-- What an atom tells of itself: kind, class, char, and how many atoms its parts have. -/
structure Hd where
  k : Int
  c : Int
  ch : Int
  nb : Nat
  nu : Nat
  nd : Nat
def Hd.none : Hd := ⟨0, 0, 0, 0, 0, 0⟩
/-- Block p of world w holds an atom with this head and this body. -/
def HdAt (w : World) (p : Nat) (h : Hd) (ab : Option Addr) (cb : Nat) : Prop := h.nb ≤ 2000 ∧ h.nu ≤ 2000 ∧ h.nd ≤ 2000 ∧ ∃ au cu ad cd, w.heap[p]? = some (.cells #[.int .i64 h.k, .int .i64 h.c, .int .i64 h.ch, .slice ab h.nb cb, .slice au h.nu cu, .slice ad h.nd cd] 56 (0, 0))

theorem HdAt.below {w w' : World} {p : Nat} {h : Hd} {ab : Option Addr} {cb : Nat} (H : HdAt w p h ab cb) (hb : Below w.heap.size w w') : HdAt w' p h ab cb := by
  obtain ⟨h1, h2, h3, au, cu, ad, cd, hh⟩ := H
  exact ⟨h1, h2, h3, au, cu, ad, cd, (hb.block p (Array.getElem?_eq_some_iff.1 hh).1).trans hh⟩

def scrB (h : Hd) : Bool := decide (0 < h.nu) || decide (0 < h.nd)
def prtB (h : Hd) : Bool := decide (h.k = 2) && !scrB h

set_option maxHeartbeats 1000000 in
theorem scr_any {w : World} {p : Nat} {h : Hd} {ab : Option Addr} {cb : Nat} (H : HdAt w p h ab cb) : Calls Try.prog 40 #[.pointer (some ⟨p, 0, none⟩)] w fun e w' => e = .returned (.bool (scrB h)) ∧ Below w.heap.size w w' := by
  obtain ⟨h1, h2, h3, au, cu, ad, cd, hh⟩ := H
  obtain ⟨k, c, ch, nb, nu, nd⟩ := h
  dsimp only at h1 h2 h3 hh
  have C4 : Hid (∀ x : World, Below w.heap.size w x → x.cell? ⟨p, 4, none⟩ = some (.slice au nu cu)) := hideP (fun x hx => (hx.cell (p := ⟨p, 4, none⟩) (Array.getElem?_eq_some_iff.1 hh).1).trans (by rw [cell_of_row w _ _ _ 56 _ hh]; rfl))
  have C5 : Hid (∀ x : World, Below w.heap.size w x → x.cell? ⟨p, 5, none⟩ = some (.slice ad nd cd)) := hideP (fun x hx => (hx.cell (p := ⟨p, 5, none⟩) (Array.getElem?_eq_some_iff.1 hh).1).trans (by rw [cell_of_row w _ _ _ 56 _ hh]; rfl))
  have g4 := C4.out w (Below.refl _ _)
  have g5 := C5.out w (Below.refl _ _)
  unfold scrB
  dsimp only
  clear hh
  by_cases q1 : 0 < nu
  · have r1 : (0 : Int) < (nu : Int) := by omega
    rw [show decide (0 < nu) = true by simp [q1]]
    go_enter Try.func40, Try.ntmps40
    go_wp2
    go_ret
    exact ⟨rfl, Below.refl _ _⟩
  · have r1 : ¬ (0 : Int) < (nu : Int) := by omega
    rw [show decide (0 < nu) = false by simp [q1]]
    by_cases q2 : 0 < nd
    · have r2 : (0 : Int) < (nd : Int) := by omega
      rw [show decide (0 < nd) = true by simp [q2]]
      go_enter Try.func40, Try.ntmps40
      go_wp2
      go_ret
      exact ⟨rfl, Below.refl _ _⟩
    · have r2 : ¬ (0 : Int) < (nd : Int) := by omega
      rw [show decide (0 < nd) = false by simp [q2]]
      go_enter Try.func40, Try.ntmps40
      go_wp2
      go_ret
      exact ⟨rfl, Below.refl _ _⟩

set_option maxHeartbeats 1000000 in
theorem prt_any {w : World} {p : Nat} {h : Hd} {ab : Option Addr} {cb : Nat} (H : HdAt w p h ab cb) : Calls Try.prog 39 #[.pointer (some ⟨p, 0, none⟩)] w fun e w' => e = .returned (.bool (prtB h)) ∧ Below w.heap.size w w' := by
  have CS : Hid (∀ W, Below w.heap.size w W → Calls Try.prog 40 #[.pointer (some ⟨p, 0, none⟩)] W fun e w' => e = .returned (.bool (scrB h)) ∧ Below W.heap.size W w') := hideP (fun W hW => scr_any (H.below hW))
  obtain ⟨h1, h2, h3, au, cu, ad, cd, hh⟩ := H
  unfold prtB
  obtain ⟨x, hx⟩ : ∃ x, x = scrB h := ⟨_, rfl⟩
  rw [← hx] at CS ⊢
  clear hx
  obtain ⟨k, c, ch, nb, nu, nd⟩ := h
  dsimp only at h1 h2 h3 hh ⊢
  have g0 : w.cell? ⟨p, 0, none⟩ = some (.int .i64 k) := by rw [cell_of_row w _ _ _ 56 _ hh]; rfl
  clear hh
  by_cases q1 : k = 2
  · subst q1
    cases x
    · go_enter Try.func39, Try.ntmps39
      go_wp2_with (go_at_call 40; refine (CS.out _ (by first | exact Below.refl _ _ | exact (Below.refl _ _).drew)).mono ?_; rintro e w2 ⟨rfl, hb2⟩; have B2 : Hid (Below w.heap.size w w2) := hideP (by first | exact hb2 | exact Below.trans (Below.refl _ _).drew hb2); clear hb2)
      go_ret
      exact ⟨rfl, B2.out⟩
    · go_enter Try.func39, Try.ntmps39
      go_wp2_with (go_at_call 40; refine (CS.out _ (by first | exact Below.refl _ _ | exact (Below.refl _ _).drew)).mono ?_; rintro e w2 ⟨rfl, hb2⟩; have B2 : Hid (Below w.heap.size w w2) := hideP (by first | exact hb2 | exact Below.trans (Below.refl _ _).drew hb2); clear hb2)
      go_ret
      exact ⟨rfl, B2.out⟩
  · have q2 : (k == 2) = false := by simp [q1]
    rw [show decide (k = 2) = false by simp [q1]]
    go_enter Try.func39, Try.ntmps39
    go_wp2
    go_ret
    exact ⟨rfl, Below.refl _ _⟩

/-- Whether an atom that is no fraction can be. -/
def canE (h : Hd) : Bool := decide (0 ≤ h.c ∧ h.c ≤ 7) && (if h.k = 1 then decide (33 ≤ h.ch ∧ h.ch ≤ 126) && decide (h.nb = 0) else if h.k = 2 ∨ h.k = 4 then decide (h.ch = 0) else false)

set_option maxHeartbeats 4000000 in
theorem can_else {w : World} {p : Nat} {h : Hd} {ab : Option Addr} {cb : Nat} (H : HdAt w p h ab cb) (hno : ¬ (h.k = 3 ∧ h.ch = 0 ∧ h.nb = 2)) : Calls Try.prog 36 #[.pointer (some ⟨p, 0, none⟩)] w fun e w' => e = .returned (.bool (canE h)) ∧ Below w.heap.size w w' := by
  obtain ⟨h1, h2, h3, au, cu, ad, cd, hh⟩ := H
  obtain ⟨k, c, ch, nb, nu, nd⟩ := h
  dsimp only at h1 h2 h3 hh hno
  have g0 : w.cell? ⟨p, 0, none⟩ = some (.int .i64 k) := by rw [cell_of_row w _ _ _ 56 _ hh]; rfl
  have g1 : w.cell? ⟨p, 1, none⟩ = some (.int .i64 c) := by rw [cell_of_row w _ _ _ 56 _ hh]; rfl
  have g2 : w.cell? ⟨p, 2, none⟩ = some (.int .i64 ch) := by rw [cell_of_row w _ _ _ 56 _ hh]; rfl
  have g3 : w.cell? ⟨p, 3, none⟩ = some (.slice ab nb cb) := by rw [cell_of_row w _ _ _ 56 _ hh]; rfl
  clear hh
  obtain ⟨R, hR⟩ : ∃ R, canE ⟨k, c, ch, nb, nu, nd⟩ = R := ⟨_, rfl⟩
  rw [hR]
  unfold canE at hR
  dsimp only at hR
  have HR := hideP hR
  have HNO := hideP hno
  obtain ⟨x1, e1⟩ : ∃ x, x = decide (0 ≤ c ∧ c ≤ 7) := ⟨_, rfl⟩
  obtain ⟨x2, e2⟩ : ∃ x, x = decide (33 ≤ ch ∧ ch ≤ 126) := ⟨_, rfl⟩
  have C1 : Hid (∀ W, Calls Try.prog 37 #[.int .i64 c, .int .i64 7] W fun e w' => e = .returned (.bool x1) ∧ w' = W) := hideP (fun W => by rw [e1]; exact upTo_any c 7 W)
  have C2 : Hid (∀ W, Calls Try.prog 38 #[.int .i64 ch] W fun e w' => e = .returned (.bool x2) ∧ w' = W) := hideP (fun W => by rw [e2]; exact visible_any ch W)
  have E1 := hideP e1
  have E2 := hideP e2
  clear hR hno e1 e2
  go_enter Try.func36, Try.ntmps36
  go_wp2_with (first | (go_at_call 37; refine (C1.out _).mono ?_; rintro e w' ⟨rfl, rfl⟩) | (go_at_call 38; refine (C2.out _).mono ?_; rintro e w' ⟨rfl, rfl⟩))
  all_goals clear C1 C2 g0 g1 g2 g3
  all_goals first
    | (exfalso
       have hno := HNO.out
       clear HNO HR E1 E2
       refine hno ⟨?_, ?_, ?_⟩ <;> first | (simp_all; done) | (simp_all; omega)
       done)
    | (go_ret
       refine ⟨retB ?_, Below.refl _ _⟩
       rw [← HR.out, ← E1.out, ← E2.out]
       clear HR HNO E1 E2
       by_cases k1 : k = 1 <;> by_cases k2 : k = 2 <;> by_cases k4 : k = 4 <;> cases x1 <;> cases x2 <;> first | (simp_all; done) | (rw [Bool.eq_iff_iff]; simp_all; done) | (rw [Bool.eq_iff_iff]; simp_all; omega) | omega)

def canT (h b0 b1 : Hd) : Bool := decide (0 ≤ h.c ∧ h.c ≤ 7) && prtB b0 && prtB b1

set_option maxHeartbeats 4000000 in
theorem can_two {w : World} {p g o p0 p1 : Nat} {h b0 b1 : Hd} {cb c0 c1 : Nat} {a0 a1 : Option Addr} (H : HdAt w p h (some ⟨g, o, none⟩) cb) (hyes : h.k = 3 ∧ h.ch = 0 ∧ h.nb = 2) (hg : g < w.heap.size)
    (q0 : w.cell? ⟨g, o, none⟩ = some (.pointer (some ⟨p0, 0, none⟩))) (q1 : w.cell? ⟨g, o + 1, none⟩ = some (.pointer (some ⟨p1, 0, none⟩))) (H0 : HdAt w p0 b0 a0 c0) (H1 : HdAt w p1 b1 a1 c1) :
    Calls Try.prog 36 #[.pointer (some ⟨p, 0, none⟩)] w fun e w' => e = .returned (.bool (canT h b0 b1)) ∧ Below w.heap.size w w' := by
  have P0 : Hid (∀ W, Below w.heap.size w W → Calls Try.prog 39 #[.pointer (some ⟨p0, 0, none⟩)] W fun e w' => e = .returned (.bool (prtB b0)) ∧ Below W.heap.size W w') := hideP (fun W hW => prt_any (H0.below hW))
  have P1 : Hid (∀ W, Below w.heap.size w W → Calls Try.prog 39 #[.pointer (some ⟨p1, 0, none⟩)] W fun e w' => e = .returned (.bool (prtB b1)) ∧ Below W.heap.size W w') := hideP (fun W hW => prt_any (H1.below hW))
  obtain ⟨h1, h2, h3, au, cu, ad, cd, hh⟩ := H
  obtain ⟨k, c, ch, nb, nu, nd⟩ := h
  dsimp only at h1 h2 h3 hh hyes
  obtain ⟨rfl, rfl, rfl⟩ := hyes
  have hp := (Array.getElem?_eq_some_iff.1 hh).1
  have gg : Hid (∀ W, Below w.heap.size w W → W.cell? ⟨p, 0, none⟩ = some (.int .i64 3) ∧ W.cell? ⟨p, 1, none⟩ = some (.int .i64 c) ∧ W.cell? ⟨p, 2, none⟩ = some (.int .i64 0) ∧ W.cell? ⟨p, 3, none⟩ = some (.slice (some ⟨g, o, none⟩) 2 cb) ∧ W.cell? ⟨g, o, none⟩ = some (.pointer (some ⟨p0, 0, none⟩)) ∧ W.cell? ⟨g, o + 1, none⟩ = some (.pointer (some ⟨p1, 0, none⟩))) := hideP (fun W hW => ⟨(hW.cell (p := ⟨p, 0, none⟩) hp).trans (by rw [cell_of_row w _ _ _ 56 _ hh]; rfl), (hW.cell (p := ⟨p, 1, none⟩) hp).trans (by rw [cell_of_row w _ _ _ 56 _ hh]; rfl), (hW.cell (p := ⟨p, 2, none⟩) hp).trans (by rw [cell_of_row w _ _ _ 56 _ hh]; rfl), (hW.cell (p := ⟨p, 3, none⟩) hp).trans (by rw [cell_of_row w _ _ _ 56 _ hh]; rfl), (hW.cell (p := ⟨g, o, none⟩) hg).trans q0, (hW.cell (p := ⟨g, o + 1, none⟩) hg).trans q1⟩)
  obtain ⟨g0, g1, g2, g3, g4, g5⟩ := gg.out w (Below.refl _ _)
  clear hh q0 q1 hp H0 H1
  unfold canT
  obtain ⟨x1, e1⟩ : ∃ x, x = decide (0 ≤ c ∧ c ≤ 7) := ⟨_, rfl⟩
  obtain ⟨y0, f0⟩ : ∃ x, x = prtB b0 := ⟨_, rfl⟩
  obtain ⟨y1, f1⟩ : ∃ x, x = prtB b1 := ⟨_, rfl⟩
  rw [← f0] at P0 ⊢
  rw [← f1] at P1 ⊢
  dsimp only
  have C1 : Hid (∀ W, Calls Try.prog 37 #[.int .i64 c, .int .i64 7] W fun e w' => e = .returned (.bool x1) ∧ w' = W) := hideP (fun W => by rw [e1]; exact upTo_any c 7 W)
  rw [← e1]
  clear e1 f0 f1
  cases x1
  · go_enter Try.func36, Try.ntmps36
    go_wp2_with (go_at_call 37; refine (C1.out _).mono ?_; rintro e w' ⟨rfl, rfl⟩)
    go_ret
    exact ⟨rfl, Below.refl _ _⟩
  · go_enter Try.func36, Try.ntmps36
    go_wp2_with (go_at_call 37; refine (C1.out _).mono ?_; rintro e w' ⟨rfl, rfl⟩)
    refine (P0.out _ (Below.refl _ _)).mono ?_
    rintro e w2 ⟨rfl, hb2⟩
    have B2 := hideP hb2
    clear hb2 g0 g1 g2 g3 g4 g5
    cases y0
    · go_wp2
      go_ret
      exact ⟨rfl, B2.out⟩
    · obtain ⟨g0, g1, g2, g3, g4, g5⟩ := gg.out w2 B2.out
      go_wp2_with fail
      refine (P1.out _ B2.out).mono ?_
      rintro e w3 ⟨rfl, hb3⟩
      have B3 := hideP (below_more B2.out hb3 B2.out.size)
      clear hb3
      go_wp2
      go_ret
      exact ⟨by simp, B3.out⟩
end Go.Proofs.Ytfcfihlkckdmbaa
