/-
  Rows of nodes: copied.
-/
import Derived.Test.YticalmdhbgkbbaaGreatNod
import Derived.Deep.RegionWith
import Derived.Deep.RegionHeld3
namespace Go.Proofs.YticalmdhbgkbbaaGreat
open Go.RowKit
set_option linter.unusedVariables false
set_option linter.unusedSimpArgs false

def Nd.none : Nd := ⟨0, 0, 0, 0, 0, 0, 0, 0, 0, 0, 0, 0, 0, ⟨#[]⟩, 0⟩
def NdR (lo : Nat) (w : World) (cs : List Value) (x : Nd) : Prop := cs = x.cells
theorem ndStable : Stable NdR where
  abv := fun h _ => h
  mono := fun h _ => h
abbrev NRow (lo : Nat) (w : World) (v : Value) (xs : List Nd) : Prop := SRow 15 NdR Nd.none lo w v xs
def FnN (x : Nd) : Prop := x.tx.size ≤ 9223372036854775807
def SmN (x : Nd) : Prop := x.tx.size ≤ 1048576

set_option maxHeartbeats 4000000 in
theorem szNodeS_any {v : Value} {xs : List Nd} {w : World} {l : Int} (h : NRow 0 w v xs) (hf : xs.length ≤ 9223372036854775807 ∧ ∀ i, i < xs.length → FnN (xs.getD i Nd.none)) (hl0 : 0 ≤ l) (hl1 : l ≤ 1048576) :
    Calls Tryz.prog 9 #[v, .int .i64 l] w fun e w' => (∃ m : Int, e = .returned (.int .i64 m) ∧ m ≤ l ∧ (0 ≤ m → xs.length ≤ 1048576 ∧ ∀ i, i < xs.length → SmN (xs.getD i Nd.none))) ∧ Below w.heap.size w w' := by
  obtain ⟨ao, n, cap, rfl, hl, hr⟩ := h
  have hn : n ≤ 9223372036854775807 := by rw [← hl]; exact hf.1
  by_cases hbig : l - (n : Int) < 0
  · go_enter Tryz.func9, Tryz.ntmps9
    go_wp2
    go_ret
    exact ⟨⟨-1, rfl, by omega, fun h => by omega⟩, Below.refl _ _⟩
  · have HR : Hid (0 < n → ∃ b off, ao = some ⟨b, off, none⟩ ∧ 0 ≤ b ∧ b < w.heap.size ∧ ∀ i, i < n → ∃ cs : List Value, cs.length = 15 ∧ NdR 0 w cs (xs.getD i Nd.none) ∧ ∀ j, j < 15 → w.cell? ⟨b, off + i * 15 + j, none⟩ = cs[j]?) := hr
    have HS : Hid (∀ i, i < xs.length → FnN (xs.getD i Nd.none)) := hf.2
    have HL : Hid (xs.length = n) := hl
    clear hr hf hl
    go_enter Tryz.func9, Tryz.ntmps9
    go_wp2
    go_loopw [1, 5] (fun s i wr => ∃ (k : Nat) (m : Int), k ≤ n ∧ i = .int .i64 k ∧ s = .int .i64 m ∧ 0 ≤ m ∧ m ≤ l ∧ Hid (∀ i, i < k → SmN (xs.getD i Nd.none)) ∧ Below w.heap.size w wr)
      (fun _ i _ => n - (intOf i).toNat)
    case atStart => exact ⟨0, l - n, by omega, rfl, rfl, by omega, by omega, fun i hi => absurd hi (by omega), Below.refl _ _⟩
    case round =>
      obtain ⟨k, m, hk, rfl, rfl, hm0, hm1, HM, hbel⟩ := hrel
      by_cases hkn : k < n
      · have hki : (k : Int) < (n : Int) := by omega
        obtain ⟨b, off, rfl, hlo, hb, hc⟩ := HR (by omega)
        have hfk : FnN (xs.getD k Nd.none) := HS k (by rw [show xs.length = n from HL]; exact hkn)
        obtain ⟨cs, hcl, hRel, hcj⟩ := hc k hkn
        obtain ⟨t, ht⟩ : ∃ t, t = xs.getD k Nd.none := ⟨_, rfl⟩
        rw [← ht] at hRel hfk
        have HT : Hid (t = xs.getD k Nd.none) := ht
        have HC : Hid (∀ (l : Int) (w : World), 0 ≤ l → l ≤ 1048576 → Calls Tryz.prog 36 #[ndV t, .int .i64 l] w fun r w' => (∃ m : Int, r = .returned (.int .i64 m) ∧ m ≤ l ∧ (0 ≤ m → SmN t)) ∧ Below w.heap.size w w') := hideP (fun l w a b => szNode_any t l w a b hfk)
        obtain ⟨kd, wd, hh, dp, sh, fo, ch, nn, gs, gp, gpo, gm, gmo, tx, kids⟩ := t
        rw [show cs = _ from hRel] at hcj
        simp only [Nd.cells] at hcj
        have g0 : wr.cell? ⟨b, off + k * 15, none⟩ = some (.int .i64 kd) := (hbel.cell (p := ⟨b, off + k * 15, none⟩) hb).trans (hcj 0 (by omega))
        have g1 : wr.cell? ⟨b, off + k * 15 + 1, none⟩ = some (.int .i64 wd) := (hbel.cell (p := ⟨b, off + k * 15 + 1, none⟩) hb).trans (hcj 1 (by omega))
        have g2 : wr.cell? ⟨b, off + k * 15 + 2, none⟩ = some (.int .i64 hh) := (hbel.cell (p := ⟨b, off + k * 15 + 2, none⟩) hb).trans (hcj 2 (by omega))
        have g3 : wr.cell? ⟨b, off + k * 15 + 3, none⟩ = some (.int .i64 dp) := (hbel.cell (p := ⟨b, off + k * 15 + 3, none⟩) hb).trans (hcj 3 (by omega))
        have g4 : wr.cell? ⟨b, off + k * 15 + 4, none⟩ = some (.int .i64 sh) := (hbel.cell (p := ⟨b, off + k * 15 + 4, none⟩) hb).trans (hcj 4 (by omega))
        have g5 : wr.cell? ⟨b, off + k * 15 + 5, none⟩ = some (.int .i64 fo) := (hbel.cell (p := ⟨b, off + k * 15 + 5, none⟩) hb).trans (hcj 5 (by omega))
        have g6 : wr.cell? ⟨b, off + k * 15 + 6, none⟩ = some (.int .i64 ch) := (hbel.cell (p := ⟨b, off + k * 15 + 6, none⟩) hb).trans (hcj 6 (by omega))
        have g7 : wr.cell? ⟨b, off + k * 15 + 7, none⟩ = some (.int .i64 nn) := (hbel.cell (p := ⟨b, off + k * 15 + 7, none⟩) hb).trans (hcj 7 (by omega))
        have g8 : wr.cell? ⟨b, off + k * 15 + 8, none⟩ = some (.int .i64 gs) := (hbel.cell (p := ⟨b, off + k * 15 + 8, none⟩) hb).trans (hcj 8 (by omega))
        have g9 : wr.cell? ⟨b, off + k * 15 + 9, none⟩ = some (.int .i64 gp) := (hbel.cell (p := ⟨b, off + k * 15 + 9, none⟩) hb).trans (hcj 9 (by omega))
        have g10 : wr.cell? ⟨b, off + k * 15 + 10, none⟩ = some (.int .i64 gpo) := (hbel.cell (p := ⟨b, off + k * 15 + 10, none⟩) hb).trans (hcj 10 (by omega))
        have g11 : wr.cell? ⟨b, off + k * 15 + 11, none⟩ = some (.int .i64 gm) := (hbel.cell (p := ⟨b, off + k * 15 + 11, none⟩) hb).trans (hcj 11 (by omega))
        have g12 : wr.cell? ⟨b, off + k * 15 + 12, none⟩ = some (.int .i64 gmo) := (hbel.cell (p := ⟨b, off + k * 15 + 12, none⟩) hb).trans (hcj 12 (by omega))
        have g13 : wr.cell? ⟨b, off + k * 15 + 13, none⟩ = some (.string tx) := (hbel.cell (p := ⟨b, off + k * 15 + 13, none⟩) hb).trans (hcj 13 (by omega))
        have g14 : wr.cell? ⟨b, off + k * 15 + 14, none⟩ = some (.int .i64 kids) := (hbel.cell (p := ⟨b, off + k * 15 + 14, none⟩) hb).trans (hcj 14 (by omega))
        have HB : Hid (Below w.heap.size w wr) := hbel
        clear hc hcj hcl hbel ht hfk hRel
        go_wp2_with fail
        refine (HC.out _ _ hm0 (by omega)).mono ?_
        rintro e w2 ⟨⟨m2, rfl, hm2l, hm2⟩, hb1⟩
        have B2 : Hid (Below w.heap.size w w2) := below_more HB hb1 (Below.size HB)
        have HM2 := hideP hm2
        clear hb1 hm2
        by_cases hneg : m2 < 0
        · go_wp2
          go_ret
          exact ⟨⟨-1, rfl, by omega, fun h => by omega⟩, B2⟩
        · go_wp2
          go_roundw
          case rel =>
            refine ⟨k + 1, m2, by omega, by go_num, rfl, by omega, by omega, fun i hi => ?_, B2⟩
            by_cases hik : i = k
            · subst hik; rw [← HT.out]; exact HM2.out (by omega)
            · exact HM i (by omega)
          case measure => simp [intOf]; omega
      · have hki : ¬ (k : Int) < (n : Int) := by omega
        obtain rfl : k = n := by omega
        have HB : Hid (Below w.heap.size w wr) := hbel
        clear hbel
        go_wp2
        go_ret
        refine ⟨⟨m, rfl, hm1, fun _ => ⟨?_, fun i hi => HM i ?_⟩⟩, HB⟩
        · have hl : xs.length = k := HL
          omega
        · have hl : xs.length = k := HL
          omega
end Go.Proofs.YticalmdhbgkbbaaGreat

namespace Go.Proofs.YticalmdhbgkbbaaGreat
open Go.RowKit
set_option linter.unusedVariables false
set_option linter.unusedSimpArgs false


theorem Tryz.info77 : (Tryz.prog.info? 77).map (fun i => (i.zero, i.size, i.bytes)) = some (some (ndV Nd.none), 15, 128) := by kernel_rfl

end Go.Proofs.YticalmdhbgkbbaaGreat

