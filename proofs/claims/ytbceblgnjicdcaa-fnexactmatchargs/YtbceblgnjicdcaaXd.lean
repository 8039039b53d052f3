/-
  The program's run of what may give up: a code is taken back.
-/
import Derived.Test.YtbceblgnjicdcaaXm
import Derived.Defers
import Derived.Recover
namespace Go.Proofs.Ytbceblgnjicdcaa
open Go.RowKit
set_option linter.unusedVariables false
set_option linter.unusedSimpArgs false

set_option maxRecDepth 100000 in
set_option maxHeartbeats 4000000 in
theorem catch_idle (p : Addr) (w : World) :
    CallsD Try.prog 108 #[.pointer (some p)] .returning w fun e u' w' => e = .returned (.tuple #[]) ∧ u' = .returning ∧ w' = w := by
  refine callsD_of_wpS Try.func108 rfl fun c₀ cs hu => ?_
  have hta : ∀ w : World, (Instr.typeAssert .nilIface 20 148 true).run Try.prog w = .ok (.tuple #[.int .i64 0, .bool false]) w := fun _ => by kernel_rfl
  apply wpS_seq
  apply wpS_region
  simp [wpOpsS, go_sem, recoverD, hu, Try.ntmps108, Exit.thenS, hta]
  apply wpS_seq
  apply wpS_region
  simp [wpOpsS, go_sem, Exit.thenS]
  refine wpS_cond (t := false) (by simp [Act.eval, Array.replicate]) ?_
  simp only [Bool.false_eq_true, if_false]
  refine wpS_of_wp (wp_skip ?_)
  cases c₀
  simp_all [bodyPostS, results, Try.results108]

set_option maxRecDepth 100000 in
set_option maxHeartbeats 4000000 in
theorem catch_up (p : Addr) (x c : Int) (older : List PanicEntry) (w : World) (hc : w.cell? p = some (.int .i64 x)) (hz : w.frozen? p = false) :
    CallsD Try.prog 108 #[.pointer (some p)] (.panicking ({ v := .iface 148 (.int .i64 c), recovered := false } :: older)) w fun e u' w' =>
      e = .returned (.tuple #[]) ∧ u' = .panicking ({ v := .iface 148 (.int .i64 c), recovered := true } :: older) ∧ w' = w.setCell p (.int .i64 c) := by
  refine callsD_of_wpS Try.func108 rfl fun c₀ cs hu => ?_
  have hta : ∀ w : World, (Instr.typeAssert (.iface 148 (.int .i64 c)) 20 148 true).run Try.prog w = .ok (.tuple #[.int .i64 c, .bool true]) w := fun _ => by kernel_rfl
  apply wpS_seq
  apply wpS_region
  simp [wpOpsS, go_sem, recoverD, hu, Try.ntmps108, Exit.thenS, hta]
  apply wpS_seq
  apply wpS_region
  simp [wpOpsS, go_sem, Exit.thenS]
  refine wpS_cond (t := true) (by simp [Act.eval, Array.replicate]) ?_
  simp only [if_true]
  apply wpS_region
  simp [wpOpsS, go_sem, hc, hz, bodyPostS, results, Try.results108]

set_option maxRecDepth 100000 in
set_option maxHeartbeats 4000000 in
theorem closure_any {w0 w : World} {x xb mb ab pb poff m pcap : Nat} {rest p : List Tk} (hx : w0.heap.size = x) (hw : Below w0.heap.size w0 w) (h : Xs w x rest) (hl : rest.length ≤ 20000) (hp : TOn 0 w0 (.slice (some ⟨pb, poff, none⟩) m pcap) p) (lm : m ≤ 1000) (hdl : ∀ t ∈ p, dl t = 0)
    (cx : w.cell? ⟨xb, 0, none⟩ = some (ptr x)) (cm : w.cell? ⟨mb, 0, none⟩ = some (.slice (some ⟨pb, poff, none⟩) m pcap)) (qa : w.heap[ab]? = some (.cells #[.slice none 0 0] 57)) (hxa : x < ab) :
    Calls Try.prog 70 #[ptr xb, ptr mb, ptr ab] w fun e w' => (∃ w4 v n vs, (mat (m + 1) p rest []).1 = 0 ∧ e = .returned (.tuple #[]) ∧ w' = w4.setCell ⟨ab, 0, none⟩ v ∧ Fr x w w4 ∧ w4.ownsRow w.heap.size 32 1 v n vs ∧ LOf x w.heap.size w4 vs (mat (m + 1) p rest []).2.1 ∧ Xs w4 x (mat (m + 1) p rest []).2.2) ∨ ((mat (m + 1) p rest []).1 ≠ 0 ∧ e = up (mat (m + 1) p rest []).1 ∧ Fr x w w') := by
  have HM : Hid (Calls Try.prog 71 #[ptr x, .slice (some ⟨pb, poff, none⟩) m pcap] w fun e w' => MatR w w' x (mat (m + 1) p rest []) e) := match_any hx hw h hl hp lm hdl
  have hsz := h.lt
  have haz : ab < w.heap.size := (Array.getElem?_eq_some_iff.1 qa).1
  have QA : Hid (w.heap[ab]? = some (.cells #[.slice none 0 0] 57)) := qa
  obtain ⟨M, hM⟩ : ∃ M, M = mat (m + 1) p rest [] := ⟨_, rfl⟩
  rw [← hM] at HM
  rw [← hM]
  clear hM h hp hdl hw hx qa
  have hxz : xb < w.heap.size := by
    rcases Nat.lt_or_ge xb w.heap.size with h | h
    · exact h
    · simp [World.cell?, Array.getElem?_eq_none h] at cx
  have hmz : mb < w.heap.size := by
    rcases Nat.lt_or_ge mb w.heap.size with h | h
    · exact h
    · simp [World.cell?, Array.getElem?_eq_none h] at cm
  go_enter Try.func70, Try.ntmps70
  go_wp2_with fail
  refine Calls.mono HM ?_
  rintro e w4 ⟨hf4, ⟨hc, v, n, vs, rfl, hown, hlo, hxs⟩ | ⟨hc, rfl⟩⟩
  · have q4 : w4.heap[ab]? = some (.cells #[.slice none 0 0] 57) := by rw [hf4.2.block ab (by omega) haz]; exact QA
    have c4 : w4.cell? ⟨ab, 0, none⟩ = some (.slice none 0 0) := by rw [cell_of_row w4 _ _ _ 57 _ q4]; rfl
    have hz4 : ∀ o, w4.frozen? ⟨ab, o, none⟩ = false := fun o => frozen_row q4 o
    have FIN : Hid (M.1 = 0 ∧ Fr x w w4 ∧ w4.ownsRow w.heap.size 32 1 v n vs ∧ LOf x w.heap.size w4 vs M.2.1 ∧ Xs w4 x M.2.2) := ⟨hc, hf4, hown, hlo, hxs⟩
    obtain ⟨ra, rc, rfl⟩ := own1_shape hown
    clear hf4 hc hown hlo hxs q4
    go_wp2
    go_end0
    exact .inl ⟨w4, _, n, vs, FIN.1, rfl, rfl, FIN.2.1, FIN.2.2.1, FIN.2.2.2.1, FIN.2.2.2.2⟩
  · have FIN : Hid (Fr x w w4 ∧ M.1 ≠ 0) := ⟨hf4, hc⟩
    clear hf4 hc
    go_wp2
    exact ⟨rfl, .inr ⟨FIN.2, rfl, FIN.1⟩⟩

theorem LOf.mono {w : World} {x base base' : Nat} (hb : base' ≤ base) : ∀ (vs : List Value) (rs : List (List Tk)), LOf x base w vs rs → LOf x base' w vs rs
  | [], [], _ => trivial
  | v :: vs, r :: rs, h => ⟨h.1.mono hb, LOf.mono hb vs rs h.2⟩
  | [], _ :: _, h => h
  | _ :: _, [], h => h
/-- What comes of running it: a code; without one the lists lie in the block ab. -/
def RunR (w w' : World) (x ab : Nat) (M : Int × List (List Tk) × List Tk) : Prop :=
  Below x w w' ∧ (∀ g, x < g → g < w.heap.size → g ≠ ab → w'.heap[g]? = w.heap[g]?) ∧ (M.1 = 0 → ∃ v n vs, w'.heap[ab]? = some (.cells #[v] 57) ∧ w'.ownsRow w.heap.size 32 1 v n vs ∧ LOf x w.heap.size w' vs M.2.1 ∧ Xs w' x M.2.2)

set_option maxRecDepth 100000 in
set_option maxHeartbeats 4000000 in
theorem run_any {w0 w : World} {x xb mb ab pb poff m pcap : Nat} {rest p : List Tk} (hx : w0.heap.size = x) (hw : Below w0.heap.size w0 w) (h : Xs w x rest) (hl : rest.length ≤ 20000) (hp : TOn 0 w0 (.slice (some ⟨pb, poff, none⟩) m pcap) p) (lm : m ≤ 1000) (hdl : ∀ t ∈ p, dl t = 0)
    (cx : w.cell? ⟨xb, 0, none⟩ = some (ptr x)) (cm : w.cell? ⟨mb, 0, none⟩ = some (.slice (some ⟨pb, poff, none⟩) m pcap)) (qa : w.heap[ab]? = some (.cells #[.slice none 0 0] 57)) (hxa : x < ab) :
    Calls Try.prog 69 #[.func (.func 70) #[] #[ptr xb, ptr mb, ptr ab]] w fun e w' => e = .returned (.int .i64 (mat (m + 1) p rest []).1) ∧ RunR w w' x ab (mat (m + 1) p rest []) := by
  have hsz := h.lt
  have haz : ab < w.heap.size := (Array.getElem?_eq_some_iff.1 qa).1
  have hxz : xb < w.heap.size := by
    rcases Nat.lt_or_ge xb w.heap.size with h | h
    · exact h
    · simp [World.cell?, Array.getElem?_eq_none h] at cx
  have hmz : mb < w.heap.size := by
    rcases Nat.lt_or_ge mb w.heap.size with h | h
    · exact h
    · simp [World.cell?, Array.getElem?_eq_none h] at cm
  obtain ⟨M, hM⟩ : ∃ M, M = mat (m + 1) p rest [] := ⟨_, rfl⟩
  have HC : Hid (∀ W, Below w.heap.size w W → Calls Try.prog 70 #[ptr xb, ptr mb, ptr ab] W fun e w' => (∃ w4 v n vs, M.1 = 0 ∧ e = .returned (.tuple #[]) ∧ w' = w4.setCell ⟨ab, 0, none⟩ v ∧ Fr x W w4 ∧ w4.ownsRow W.heap.size 32 1 v n vs ∧ LOf x W.heap.size w4 vs M.2.1 ∧ Xs w4 x M.2.2) ∨ (M.1 ≠ 0 ∧ e = up M.1 ∧ Fr x W w')) := by
    intro W hW
    rw [hM]
    exact closure_any hx (below_more hw hW (by omega)) (Xs.fr h hW) hl hp lm hdl ((hW.cell (p := ⟨xb, 0, none⟩) hxz).trans cx) ((hW.cell (p := ⟨mb, 0, none⟩) hmz).trans cm) ((hW.block ab haz).trans qa) hxa
  have QA : Hid (w.heap[ab]? = some (.cells #[.slice none 0 0] 57)) := qa
  rw [← hM]
  clear h hp hdl hw hx cx cm hM qa
  have hmf : ∀ (fn : Fn) (first cap : Array Value) (w : World), (Instr.makeFunc fn first cap).run Try.prog w = .ok (.func fn first cap) w := fun _ _ _ _ => rfl
  go_enter_defers Try.func69, Try.ntmps69
  go_wp2_with fail
  obtain ⟨C, hC⟩ : ∃ C, C = w.heap.size := ⟨_, rfl⟩
  have HCC : Hid (C = w.heap.size) := hC
  obtain ⟨WA, hWA⟩ : ∃ W, W = w.alloc (.cells #[.int .i64 0] 2) := ⟨_, rfl⟩
  have BA : Hid (Below w.heap.size w WA ∧ WA.heap.size = w.heap.size + 1 ∧ WA.heap[C]? = some (.cells #[.int .i64 0] 2)) := by rw [hWA, hC]; exact ⟨below1 _ _, by simp, heap_alloc_new _ _⟩
  rw [← hWA, ← hC]
  clear hWA hC
  refine (HC WA BA.1).mono ?_
  rintro e w5 (⟨w4, v, n, vs, hc, rfl, rfl, hf4, hown, hlo, hxs⟩ | ⟨hc, rfl, hf4⟩)
  · have hCz := show C = w.heap.size from HCC
    have hxC : x < C := by omega
    have q4 : w4.heap[C]? = some (.cells #[.int .i64 0] 2) := by rw [hf4.2.block C (by omega) (by rw [BA.2.1]; omega)]; exact BA.2.2
    have qa4 : w4.heap[ab]? = some (.cells #[.slice none 0 0] 57) := by rw [hf4.2.block ab (by omega) (by rw [BA.2.1]; omega), BA.1.block ab haz]; exact QA
    have hne : C ≠ ab := by omega
    have hne2 : ab ≠ C := by omega
    obtain ⟨w6, hw6⟩ : ∃ w6, w6 = w4.setCell ⟨ab, 0, none⟩ v := ⟨_, rfl⟩
    have q6 : w6.heap[C]? = some (.cells #[.int .i64 0] 2) := by rw [hw6]; exact (Below.heap_setCell w4 ⟨ab, 0, none⟩ _ _ hne).trans q4
    have c6 : w6.cell? ⟨C, 0, none⟩ = some (.int .i64 0) := by rw [cell_of_row w6 _ _ _ 2 _ q6]; rfl
    have z6 : ∀ o, w6.frozen? ⟨C, o, none⟩ = false := fun o => frozen_row q6 o
    have FIN : Hid (M.1 = 0 ∧ RunR w (w6.setCell ⟨C, 0, none⟩ (.int .i64 0)) x ab M) := by
      have bs : ∀ B, B ≤ ab → B ≤ C → Below B w4 (w6.setCell ⟨C, 0, none⟩ (.int .i64 0)) := fun B h1 h2 => by rw [hw6]; exact ((Below.refl _ _).setCell (p := ⟨ab, 0, none⟩) h1 _).setCell (p := ⟨C, 0, none⟩) h2 _
      have ks : ∀ g, g ≠ ab → g ≠ C → (w6.setCell ⟨C, 0, none⟩ (.int .i64 0)).heap[g]? = w4.heap[g]? := fun g h1 h2 => (Below.heap_setCell w6 ⟨C, 0, none⟩ _ _ h2).trans (by rw [hw6]; exact Below.heap_setCell w4 ⟨ab, 0, none⟩ _ _ h1)
      refine ⟨hc, ?_, fun g h1 h2 h3 => ?_, fun _ => ⟨v, n, vs, ?_, ?_, ?_, ?_⟩⟩
      · exact ((BA.1.mono (by omega)).trans (hf4.1)).trans (bs x (by omega) (by omega))
      · rw [ks g h3 (by omega), hf4.2.block g (by omega) (by rw [BA.2.1]; omega), BA.1.block g h2]
      · have e1 := heap_setCell_same w4 ab 0 _ 57 v qa4
        rw [← hw6] at e1
        exact (Below.heap_setCell w6 ⟨C, 0, none⟩ _ _ hne2).trans e1
      · exact own1_mono (own1_keep hown (fun g hg hg2 => ks g (by rw [BA.2.1] at hg; omega) (by rw [BA.2.1] at hg; omega))) (by rw [BA.2.1]; omega)
      · have hl2 := LOf.keep (bs x (by omega) (by omega)) (fun g cur hg hh => ks g (by rw [BA.2.1] at hg; omega) (by rw [BA.2.1] at hg; omega)) _ _ hlo
        exact LOf.mono (by rw [BA.2.1]; omega) _ _ hl2
      · exact Xs.bel hxs (bs (x + 1) (by omega) (by omega))
    rw [← hw6]
    clear hw6 hf4 hown hlo hxs q4 qa4 q6 hc hCz hxC
    go_wp2
    refine leaves_cons (f := 108) (args := #[.pointer (some ⟨C, 0, none⟩)]) (by simp) (by simp [go_sem]) ?_
    refine (catch_idle ⟨C, 0, none⟩ _).mono ?_
    rintro e u' w'' ⟨rfl, rfl, rfl⟩
    simp [Leaves, settle, results, Try.results69, go_sem, c6]
    exact ⟨FIN.1.symm, FIN.2⟩
  · have hCz := show C = w.heap.size from HCC
    have hxC : x < C := by omega
    have q4 : w5.heap[C]? = some (.cells #[.int .i64 0] 2) := by rw [hf4.2.block C (by omega) (by rw [BA.2.1]; omega)]; exact BA.2.2
    have c5 : w5.cell? ⟨C, 0, none⟩ = some (.int .i64 0) := by rw [cell_of_row w5 _ _ _ 2 _ q4]; rfl
    have z5 : ∀ o, w5.frozen? ⟨C, o, none⟩ = false := fun o => frozen_row q4 o
    have FIN : Hid (RunR w (w5.setCell ⟨C, 0, none⟩ (.int .i64 M.1)) x ab M) := by
      refine ⟨((BA.1.mono (by omega)).trans (hf4.1)).trans ((Below.refl _ _).setCell (p := ⟨C, 0, none⟩) (by show x ≤ C; omega) _), fun g h1 h2 h3 => ?_, fun h => absurd h hc⟩
      rw [Below.heap_setCell w5 ⟨C, 0, none⟩ _ _ (by show g ≠ C; omega), hf4.2.block g (by omega) (by rw [BA.2.1]; omega), BA.1.block g h2]
    clear hf4 q4 hc hCz hxC
    go_wp2
    refine leaves_cons (f := 108) (args := #[.pointer (some ⟨C, 0, none⟩)]) (by simp) (by simp [go_sem]) ?_
    refine (catch_up ⟨C, 0, none⟩ 0 M.1 [] _ c5 (z5 _)).mono ?_
    rintro e u' w'' ⟨rfl, rfl, rfl⟩
    simp [Leaves, settle, results, Try.results69, go_sem, c5]
    exact FIN
end Go.Proofs.Ytbceblgnjicdcaa
