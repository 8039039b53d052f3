/-
  Atoms: what one is; rows of atoms weighed, copied, compared.
-/
import Derived.Test.YtfcfihlkckdmbaaRowg
import Derived.Deep.RegionWith
import Derived.Deep.RegionHeld3
namespace Go.Proofs.Ytfcfihlkckdmbaa
open Go.RowKit
set_option linter.unusedVariables false
set_option linter.unusedSimpArgs false

/-- An atom. -/
structure At where
  k : Int
  c : Int
  ch : Int
  b : Int
  u : Int
  d : Int
def At.none : At := ⟨0, 0, 0, 0, 0, 0⟩
def At.cells (x : At) : List Value := [.int .i64 x.k, .int .i64 x.c, .int .i64 x.ch, .int .i64 x.b, .int .i64 x.u, .int .i64 x.d]
abbrev atV (x : At) : Value := .agg #[.int .i64 x.k, .int .i64 x.c, .int .i64 x.ch, .int .i64 x.b, .int .i64 x.u, .int .i64 x.d]
def AtR (lo : Nat) (w : World) (cs : List Value) (x : At) : Prop := cs = x.cells
theorem atStable : Stable AtR := ⟨fun h _ => h, fun h _ => h⟩
/-- In world w the slice v reads as the atoms xs; it lies from block lo on. -/
abbrev ARow (lo : Nat) (w : World) (v : Value) (xs : List At) : Prop := SRow 6 AtR At.none lo w v xs

theorem szAtoms_any {ao : Option Addr} {n cap : Nat} (w : World) (hn : n ≤ 9223372036854775807) :
    Calls Try.prog 6 #[.slice ao n cap, .int .i64 1048576] w fun e w' => (∃ m : Int, e = .returned (.int .i64 m) ∧ (0 ≤ m → n ≤ 1048576)) ∧ w' = w := by
  by_cases hbig : (1048576 : Int) - (n : Int) < 0
  · go_enter Try.func6, Try.ntmps6
    go_wp2
    go_ret
    exact ⟨⟨-1, rfl, fun h => by omega⟩, rfl⟩
  · go_enter Try.func6, Try.ntmps6
    go_wp2
    go_ret
    exact ⟨⟨_, rfl, fun h => by omega⟩, rfl⟩

theorem toAtom_any (x : At) (w : World) : Calls Try.prog 20 #[atV x] w fun r w' => r = .returned (atV x) ∧ Below w.heap.size w w' := by
  obtain ⟨k, c, ch, b, u, d⟩ := x
  simp only [atV]
  go_enter Try.func20, Try.ntmps20
  go_wp2
  refine bodyPost_ret (v := atV ⟨k, c, ch, b, u, d⟩) (by simp [results, Try.results20, go_sem]) rfl ⟨rfl, ?_⟩
  repeat (first | exact below1 _ _ | exact below2 _ _ _ | exact (below2 w _ _).alloc (by simp; omega) _ | refine Below.setCell ?_ (by first | (simp; done) | (simp; omega)) _)

theorem eqAtom_same (x : At) (w : World) : Calls Try.prog 22 #[atV x, atV x] w fun r w' => r = .returned (.bool true) ∧ Below w.heap.size w w' := by
  obtain ⟨k, c, ch, b, u, d⟩ := x
  simp only [atV]
  go_enter Try.func22, Try.ntmps22
  go_wp2
  go_ret
  exact ⟨rfl, below2 _ _ _⟩

theorem Try.info38 : (Try.prog.info? 38).map (fun i => (i.zero, i.size, i.bytes)) = some (some (atV At.none), 6, 48) := by kernel_rfl

set_option maxHeartbeats 4000000 in
theorem toAtoms_any {v : Value} {xs : List At} {w : World} (h : ARow 0 w v xs) (hs : xs.length ≤ 1048576) :
    Calls Try.prog 8 #[v] w fun e w' => e = .returned (.slice (some ⟨w.heap.size, 0, none⟩) xs.length xs.length) ∧ ARow w.heap.size w' (.slice (some ⟨w.heap.size, 0, none⟩) xs.length xs.length) xs ∧ Below w.heap.size w w' := by
  obtain ⟨ao, n, cap, rfl, hn, hr⟩ := h
  have hsz : n ≤ 1048576 := by rw [← hn]; exact hs
  have HL : Hid (xs.length = n) := hn
  obtain ⟨i0, hi, hz0, hz1, hz2⟩ := info_parts Try.info38
  have HI : Hid (i0.bytes = 48) := hz2
  have HR : Hid (0 < n → ∃ b off, ao = some ⟨b, off, none⟩ ∧ 0 ≤ b ∧ b < w.heap.size ∧ ∀ i, i < n → ∃ cs : List Value, cs.length = 6 ∧ AtR 0 w cs (xs.getD i At.none) ∧ ∀ j, j < 6 → w.cell? ⟨b, off + i * 6 + j, none⟩ = cs[j]?) := hr
  clear hr hs hn
  go_enter Try.func8, Try.ntmps8
  go_wp2_with (first
    | (refine wpList_make_full _ rfl _ _ 25 rfl w.heap.size 38 i0 (atV At.none) 6 Try.underlying25 hi hz0 hz1 _ _ _ _ n rfl rfl rfl rfl (by rw [show i0.bytes = 48 from HI]; omega) (by unfold maxLen; omega) (Nat.le_refl _) ?_; intro w1 hown hgrow))
  have hbel : Below w.heap.size w w1 := Below.grown (Below.refl _ _) hgrow (Nat.le_refl _) (by simp)
  have HO : Hid (SPart 6 AtR At.none 38 w1 w.heap.size n 0 xs ∧ Below w.heap.size w w1) := by
    refine ⟨?_, hbel⟩
    rcases hown.2 with ⟨h', _⟩ | ⟨g', cap', cur, h', _, hg, _, _, hcs, _⟩
    · simp at h'
    · simp only [Value.slice.injEq, Option.some.injEq, Addr.mk.injEq, and_true, true_and] at h'
      obtain ⟨rfl, rfl⟩ := h'
      exact SPart.new hg hcs
  clear hown hgrow hbel
  go_wp2
  go_loopw [4] (fun i wr => ∃ k : Nat, k ≤ n ∧ i = .int .i64 k ∧ SPart 6 AtR At.none 38 wr w.heap.size n k xs ∧ Below w.heap.size w wr) (fun i _ => n - (intOf i).toNat)
  case atStart => exact ⟨0, by omega, rfl, HO.1, HO.2⟩
  case round =>
    obtain ⟨k, hk, rfl, hp, hbel⟩ := hrel
    by_cases hkn : k < n
    · have hki : (k : Int) < (n : Int) := by omega
      obtain ⟨b, off, rfl, hlo, hb, hc⟩ := HR (by omega)
      obtain ⟨cs, hcl, hRel, hcj⟩ := hc k hkn
      obtain ⟨t, ht⟩ : ∃ t, t = xs.getD k At.none := ⟨_, rfl⟩
      rw [← ht] at hRel
      have HT : Hid (AtR (w.heap.size + 1) w t.cells (xs.getD k At.none)) := hideP (by rw [← ht]; rfl)
      have HC : Hid (∀ W : World, Calls Try.prog 20 #[atV t] W fun r w' => r = .returned (atV t) ∧ Below W.heap.size W w') := hideP (fun W => toAtom_any t W)
      obtain ⟨zk, zc, zh, zb, zu, zd⟩ := t
      rw [show cs = _ from hRel] at hcj
      simp only [At.cells] at hcj HT
      have g0 : wr.cell? ⟨b, off + k * 6, none⟩ = some (.int .i64 zk) := (hbel.cell (p := ⟨b, off + k * 6, none⟩) hb).trans (hcj 0 (by omega))
      have g1 : wr.cell? ⟨b, off + k * 6 + 1, none⟩ = some (.int .i64 zc) := (hbel.cell (p := ⟨b, off + k * 6 + 1, none⟩) hb).trans (hcj 1 (by omega))
      have g2 : wr.cell? ⟨b, off + k * 6 + 2, none⟩ = some (.int .i64 zh) := (hbel.cell (p := ⟨b, off + k * 6 + 2, none⟩) hb).trans (hcj 2 (by omega))
      have g3 : wr.cell? ⟨b, off + k * 6 + 3, none⟩ = some (.int .i64 zb) := (hbel.cell (p := ⟨b, off + k * 6 + 3, none⟩) hb).trans (hcj 3 (by omega))
      have g4 : wr.cell? ⟨b, off + k * 6 + 4, none⟩ = some (.int .i64 zu) := (hbel.cell (p := ⟨b, off + k * 6 + 4, none⟩) hb).trans (hcj 4 (by omega))
      have g5 : wr.cell? ⟨b, off + k * 6 + 5, none⟩ = some (.int .i64 zd) := (hbel.cell (p := ⟨b, off + k * 6 + 5, none⟩) hb).trans (hcj 5 (by omega))
      have HB : Hid (Below w.heap.size w wr) := hbel
      have HP : Hid (SPart 6 AtR At.none 38 wr w.heap.size n k xs) := hp
      clear hc hcj hcl hbel ht hp hRel
      go_wp2_with (go_at_call 20; refine (HC.out _).mono ?_; rintro e w2 ⟨rfl, hb1⟩; simp only [atV]; have hp2 := SPart.below atStable HP hb1; have hfz := hp2.free; obtain ⟨x0, hx0⟩ := hp2.cells (k * 6) (by omega); obtain ⟨x1, hx1⟩ := hp2.cells (k * 6 + 1) (by omega); obtain ⟨x2, hx2⟩ := hp2.cells (k * 6 + 2) (by omega); obtain ⟨x3, hx3⟩ := hp2.cells (k * 6 + 3) (by omega); obtain ⟨x4, hx4⟩ := hp2.cells (k * 6 + 4) (by omega); obtain ⟨x5, hx5⟩ := hp2.cells (k * 6 + 5) (by omega); have HP2 : Hid (SPart 6 AtR At.none 38 w2 w.heap.size n k xs ∧ Below w.heap.size w w2) := ⟨hp2, Below.trans HB (hb1.mono (Below.size HB))⟩; clear hp2 hb1)
      go_roundw
      case rel => exact ⟨k + 1, by omega, by go_num, SPart.put atStable HP2.1 hkn (cs := [.int .i64 zk, .int .i64 zc, .int .i64 zh, .int .i64 zb, .int .i64 zu, .int .i64 zd]) rfl HT.out, putC_below (Nat.le_refl _) [.int .i64 zk, .int .i64 zc, .int .i64 zh, .int .i64 zb, .int .i64 zu, .int .i64 zd] (k * 6) _ HP2.2⟩
      case measure => simp [intOf]; omega
    · have hki : ¬ (k : Int) < (n : Int) := by omega
      obtain rfl : k = n := by omega
      have HP : Hid (SPart 6 AtR At.none 38 wr w.heap.size k k xs ∧ Below w.heap.size w wr) := ⟨hp, hbel⟩
      clear hp hbel
      go_wp2
      go_ret
      rw [show xs.length = k from HL]
      exact ⟨rfl, SPart.row atStable HP.1 HL, HP.2⟩

set_option maxHeartbeats 4000000 in
theorem eqAtoms_same {v1 v2 : Value} {xs : List At} {w : World} (h1 : ARow 0 w v1 xs) (h2 : ARow 0 w v2 xs) (hs : xs.length ≤ 1048576) :
    Calls Try.prog 10 #[v1, v2] w fun e w' => e = .returned (.bool true) ∧ Below w.heap.size w w' := by
  obtain ⟨ao1, n1, cap1, rfl, hn1, hr1⟩ := h1
  obtain ⟨ao2, n2, cap2, rfl, hn2, hr2⟩ := h2
  obtain rfl : n1 = n2 := by omega
  have hx : n1 ≤ 1048576 := by rw [← hn1]; exact hs
  have HL : Hid (xs.length = n1) := hn1
  have HR1 : Hid (0 < n1 → ∃ b off, ao1 = some ⟨b, off, none⟩ ∧ 0 ≤ b ∧ b < w.heap.size ∧ ∀ i, i < n1 → ∃ cs : List Value, cs.length = 6 ∧ AtR 0 w cs (xs.getD i At.none) ∧ ∀ j, j < 6 → w.cell? ⟨b, off + i * 6 + j, none⟩ = cs[j]?) := hr1
  have HR2 : Hid (0 < n1 → ∃ b off, ao2 = some ⟨b, off, none⟩ ∧ 0 ≤ b ∧ b < w.heap.size ∧ ∀ i, i < n1 → ∃ cs : List Value, cs.length = 6 ∧ AtR 0 w cs (xs.getD i At.none) ∧ ∀ j, j < 6 → w.cell? ⟨b, off + i * 6 + j, none⟩ = cs[j]?) := hr2
  clear hn1 hn2 hr1 hr2 hs
  go_enter Try.func10, Try.ntmps10
  go_wp2
  go_loopw [5] (fun i wr => ∃ k : Nat, k ≤ n1 ∧ i = .int .i64 k ∧ Below w.heap.size w wr) (fun i _ => n1 - (intOf i).toNat)
  case atStart => exact ⟨0, by omega, rfl, Below.refl _ _⟩
  case round =>
    obtain ⟨k, hk, rfl, hbel⟩ := hrel
    by_cases hkn : k < n1
    · have hki : (k : Int) < (n1 : Int) := by omega
      obtain ⟨b, off, rfl, hlo, hb, hc⟩ := HR1 (by omega)
      obtain ⟨b', off', rfl, hlo', hb', hc'⟩ := HR2 (by omega)
      obtain ⟨cs, hcl, hRel, hcj⟩ := hc k hkn
      obtain ⟨cs', hcl', hRel', hcj'⟩ := hc' k hkn
      obtain ⟨t, ht⟩ : ∃ t, t = xs.getD k At.none := ⟨_, rfl⟩
      rw [← ht] at hRel hRel'
      have HC : Hid (∀ W : World, Calls Try.prog 22 #[atV t, atV t] W fun r w' => r = .returned (.bool true) ∧ Below W.heap.size W w') := hideP (fun W => eqAtom_same t W)
      obtain ⟨zk, zc, zh, zb, zu, zd⟩ := t
      rw [show cs = _ from hRel] at hcj
      rw [show cs' = _ from hRel'] at hcj'
      simp only [At.cells] at hcj hcj'
      have QA : Hid (∀ x, Below w.heap.size w x → x.cell? ⟨b, off + k * 6, none⟩ = some (.int .i64 zk) ∧ x.cell? ⟨b, off + k * 6 + 1, none⟩ = some (.int .i64 zc) ∧ x.cell? ⟨b, off + k * 6 + 2, none⟩ = some (.int .i64 zh) ∧ x.cell? ⟨b, off + k * 6 + 3, none⟩ = some (.int .i64 zb) ∧ x.cell? ⟨b, off + k * 6 + 4, none⟩ = some (.int .i64 zu) ∧ x.cell? ⟨b, off + k * 6 + 5, none⟩ = some (.int .i64 zd)) := hideP (fun x hx => ⟨(hx.cell (p := ⟨b, off + k * 6, none⟩) hb).trans (hcj 0 (by omega)), (hx.cell (p := ⟨b, off + k * 6 + 1, none⟩) hb).trans (hcj 1 (by omega)), (hx.cell (p := ⟨b, off + k * 6 + 2, none⟩) hb).trans (hcj 2 (by omega)), (hx.cell (p := ⟨b, off + k * 6 + 3, none⟩) hb).trans (hcj 3 (by omega)), (hx.cell (p := ⟨b, off + k * 6 + 4, none⟩) hb).trans (hcj 4 (by omega)), (hx.cell (p := ⟨b, off + k * 6 + 5, none⟩) hb).trans (hcj 5 (by omega))⟩)
      have QB : Hid (∀ x, Below w.heap.size w x → x.cell? ⟨b', off' + k * 6, none⟩ = some (.int .i64 zk) ∧ x.cell? ⟨b', off' + k * 6 + 1, none⟩ = some (.int .i64 zc) ∧ x.cell? ⟨b', off' + k * 6 + 2, none⟩ = some (.int .i64 zh) ∧ x.cell? ⟨b', off' + k * 6 + 3, none⟩ = some (.int .i64 zb) ∧ x.cell? ⟨b', off' + k * 6 + 4, none⟩ = some (.int .i64 zu) ∧ x.cell? ⟨b', off' + k * 6 + 5, none⟩ = some (.int .i64 zd)) := hideP (fun x hx => ⟨(hx.cell (p := ⟨b', off' + k * 6, none⟩) hb').trans (hcj' 0 (by omega)), (hx.cell (p := ⟨b', off' + k * 6 + 1, none⟩) hb').trans (hcj' 1 (by omega)), (hx.cell (p := ⟨b', off' + k * 6 + 2, none⟩) hb').trans (hcj' 2 (by omega)), (hx.cell (p := ⟨b', off' + k * 6 + 3, none⟩) hb').trans (hcj' 3 (by omega)), (hx.cell (p := ⟨b', off' + k * 6 + 4, none⟩) hb').trans (hcj' 4 (by omega)), (hx.cell (p := ⟨b', off' + k * 6 + 5, none⟩) hb').trans (hcj' 5 (by omega))⟩)
      have BD : Below w.heap.size w wr.drew := Below.drew hbel
      have HB : Hid (Below w.heap.size w wr) := hbel
      have HBD : Hid (Below w.heap.size w wr.drew) := BD
      clear hc hc' hcl hcl' hcj hcj' hbel ht BD hRel hRel'
      go_wp2_with fail
      go_region_held3 (fun x => (x.cell? ⟨b, off + k * 6, none⟩ = some (.int .i64 zk) ∧ x.cell? ⟨b, off + k * 6 + 1, none⟩ = some (.int .i64 zc) ∧ x.cell? ⟨b, off + k * 6 + 2, none⟩ = some (.int .i64 zh) ∧ x.cell? ⟨b, off + k * 6 + 3, none⟩ = some (.int .i64 zb) ∧ x.cell? ⟨b, off + k * 6 + 4, none⟩ = some (.int .i64 zu) ∧ x.cell? ⟨b, off + k * 6 + 5, none⟩ = some (.int .i64 zd)) ∧ (x.cell? ⟨b', off' + k * 6, none⟩ = some (.int .i64 zk) ∧ x.cell? ⟨b', off' + k * 6 + 1, none⟩ = some (.int .i64 zc) ∧ x.cell? ⟨b', off' + k * 6 + 2, none⟩ = some (.int .i64 zh) ∧ x.cell? ⟨b', off' + k * 6 + 3, none⟩ = some (.int .i64 zb) ∧ x.cell? ⟨b', off' + k * 6 + 4, none⟩ = some (.int .i64 zu) ∧ x.cell? ⟨b', off' + k * 6 + 5, none⟩ = some (.int .i64 zd))) (first | exact ⟨QA.out _ HBD.out, QB.out _ HBD.out⟩ | exact ⟨QA.out _ ‹Hid (Below w.heap.size w _)›, QB.out _ ‹Hid (Below w.heap.size w _)›⟩) ((go_at_call 22; refine (HC.out _).mono ?_; rintro e w2 ⟨rfl, hb1⟩; have hb2 : Hid (Below w.heap.size w w2) := below_more HBD.out hb1 HBD.out.size; clear hb1))
      all_goals
        go_wp2
        go_roundw
        case rel => exact ⟨k + 1, by omega, by go_num, ‹Hid (Below w.heap.size w w2)›⟩
        case measure => simp [intOf]; omega
    · have hki : ¬ (k : Int) < (n1 : Int) := by omega
      have HB : Hid (Below w.heap.size w wr) := hbel
      clear hbel
      go_wp2
      go_ret
      exact ⟨rfl, HB⟩
end Go.Proofs.Ytfcfihlkckdmbaa
