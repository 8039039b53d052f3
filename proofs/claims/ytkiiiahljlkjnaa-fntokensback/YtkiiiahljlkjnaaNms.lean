/-
  The specification's blank and name of chapter 2.
-/
import Derived.Test.YtkiiiahljlkjnaaCats
namespace Go.Proofs.Ytkiiiahljlkjnaa
open Go.RowKit
set_option linter.unusedVariables false
set_option linter.unusedSimpArgs false

def byteAt (s : ByteArray) (i : Nat) : Nat := (s.data.toList.getD i 0).toNat
theorem byteAt_le (s : ByteArray) (i : Nat) : byteAt s i ≤ 255 := by
  unfold byteAt
  have := (s.data.toList.getD i 0).toNat_lt
  omega
theorem byteAt_get (s : ByteArray) (i : Nat) (h : i < s.size) : (s[i]'h).toNat = byteAt s i := by
  unfold byteAt
  have h2 : i < s.data.toList.length := by simpa using h
  rw [List.getD, List.getElem?_eq_getElem h2]
  rfl
/-- The category of a byte of a text. -/
def catAt (zs : List Int) (s : ByteArray) (i : Nat) : Int := zs.getD (byteAt s i) 0
/-- Where the letters end that stand at a place, so many at most. -/
def runL (zs : List Int) (s : ByteArray) : Nat → Nat → Nat
  | 0, i => i
  | f + 1, i => if i < s.size ∧ catAt zs s i = 4 then runL zs s f (i + 1) else i
/-- What a scan tells. -/
structure Sc where
  k : Int
  c : Int
  h : Int
  n : ByteArray
  a : Int
  s : Int
def scV (x : Sc) : Value := .agg #[.int .i64 x.k, .int .i64 x.c, .int .i64 x.h, .string x.n, .int .i64 x.a, .int .i64 x.s]
/-- What comes behind an escape. -/
def nmS (zs : List Int) (s : ByteArray) (a : Nat) : Sc :=
  if a = s.size then ⟨1, 0, 0, ByteArray.empty, a, 1⟩
  else if a < runL zs s 40 a then ⟨1, 0, 0, s.extract a (runL zs s 40 a), runL zs s 40 a, 2⟩
  else ⟨1, 0, 0, s.extract a (a + 1), a + 1, if catAt zs s a = 3 then 2 else 1⟩

set_option maxHeartbeats 2000000 in
theorem blank_any (a st : Int) (w : World) : Calls Try.prog 50 #[.int .i64 a, .int .i64 st] w fun e w' => e = .returned (scV ⟨1, 3, 32, ByteArray.empty, a, st⟩) ∧ Below w.heap.size w w' := by
  go_enter Try.func50, Try.ntmps50
  go_wp2
  refine bodyPost_ret (v := scV ⟨1, 3, 32, ByteArray.empty, a, st⟩) (by simp [results, Try.results50, go_sem, scV]; try rfl) rfl ⟨rfl, ?_⟩
  repeat (first | exact below1 _ _ | refine Below.setCell ?_ (by first | (simp; done) | (simp; omega)) _)

theorem runL_stop {zs : List Int} {s : ByteArray} {f i : Nat} (h : ¬ (i < s.size ∧ catAt zs s i = 4)) : runL zs s f i = i := by
  cases f with
  | zero => rfl
  | succ f => unfold runL; rw [if_neg h]
theorem runL_go {zs : List Int} {s : ByteArray} {f i : Nat} (h : i < s.size) (h4 : catAt zs s i = 4) : runL zs s (f + 1) i = runL zs s f (i + 1) := by
  rw [runL, if_pos ⟨h, h4⟩]

set_option maxRecDepth 20000 in
set_option maxHeartbeats 4000000 in
theorem name_any {v : Value} {zs : List Int} {s : ByteArray} {a : Nat} {w : World} (h : Row w v zs) (hz : zs.length = 256) (hs : s.size ≤ 65536) (ha : a ≤ s.size) :
    Calls Try.prog 49 #[v, .string s, .int .i64 a] w fun e w' => e = .returned (scV (nmS zs s a)) ∧ Below w.heap.size w w' := by
  obtain ⟨ao, n, cap, rfl, hn, hr⟩ := h
  obtain rfl : n = 256 := by omega
  obtain ⟨b, off, rfl, hb, hc⟩ := hr (by omega)
  have HC := hideP hc
  obtain ⟨x, hx⟩ : ∃ x, x = nmS zs s a := ⟨_, rfl⟩
  rw [← hx]
  have HX := hideP hx
  clear hx
  have hb2 : ¬ b = w.heap.size := by omega
  have hb3 : ¬ b = w.heap.size + 1 := by omega
  clear hc hr hn hz
  go_enter Try.func49, Try.ntmps49
  by_cases hae : a = s.size
  · have hae2 : (a : Int) = (s.size : Int) := by omega
    have HXX : Hid (x = ⟨1, 0, 0, ByteArray.empty, a, 1⟩) := hideP (by rw [HX.out]; unfold nmS; rw [if_pos hae])
    subst hae
    clear hae2
    go_wp2
    refine bodyPost_ret (v := scV x) (by rw [HXX.out]; simp [results, Try.results49, go_sem, scV]; try rfl) rfl ⟨rfl, ?_⟩
    repeat (first | with_reducible exact below2 _ _ _ | (with_reducible refine Below.setCell ?_ ?_ _; rotate_left; focus (first | (simp; done) | (simp; omega))))
  · have hae3 : ((a : Int) == (s.size : Int)) = false := by simp; omega
    have hae4 : decide ((a : Int) = (s.size : Int)) = false := by simp; omega
    go_wp2
    go_loop [9] (fun i => ∃ k : Nat, a ≤ k ∧ k ≤ s.size ∧ k ≤ a + 40 ∧ i = .int .i64 k ∧ Hid (runL zs s 40 a = runL zs s (40 - (k - a)) k)) (fun i => s.size - (intOf i).toNat)
    case atStart => exact ⟨a, by omega, by omega, by omega, rfl, hideP (by simp)⟩
    case round =>
      obtain ⟨k, hk1, hk2, hk3, rfl, HR⟩ := hrel
      by_cases hlt : k < s.size
      · have hki : (k : Int) < (s.size : Int) := by omega
        obtain ⟨c, hcc⟩ : ∃ c : Nat, c = byteAt s k := ⟨_, rfl⟩
        have hc1 : c ≤ 255 := by rw [hcc]; exact byteAt_le s k
        have hbb : ((s[k]'hlt).toNat : Int) = (c : Int) := by rw [hcc, byteAt_get s k hlt]
        have hbn : (s[k]'hlt).toNat = c := by rw [hcc, byteAt_get s k hlt]
        obtain ⟨z, hzz⟩ : ∃ z, z = zs.getD c 0 := ⟨_, rfl⟩
        have HZ : Hid (catAt zs s k = z) := hideP (by unfold catAt; rw [← hcc, hzz])
        have hcl := HC.out c (by omega)
        rw [← hzz] at hcl
        clear hcc hzz
        by_cases h40 : k < a + 40
        · have h40i : (k : Int) - (a : Int) < 40 := by omega
          by_cases hz4 : z = 4
          · subst hz4
            go_wp2
            go_round
            case rel => exact ⟨k + 1, by omega, by omega, by omega, by go_num, hideP (by rw [HR.out, show 40 - (k - a) = (40 - (k + 1 - a)) + 1 by omega, runL_go hlt HZ.out])⟩
            case measure => simp [intOf]; omega
          · have hz4a : (z == 4) = false := by simp [hz4]
            have hz4b : decide (z = 4) = false := by simp [hz4]
            have HE : Hid (runL zs s 40 a = k) := hideP (by rw [HR.out, runL_stop (by rw [HZ.out]; exact fun h => hz4 h.2)])
            by_cases hka : a < k
            · skip
              have HXX : Hid (x = ⟨1, 0, 0, s.extract a k, k, 2⟩) := hideP (by rw [HX.out]; unfold nmS; rw [if_neg (by omega), HE.out, if_pos hka])
              have hka2 : (a : Int) < (k : Int) := by omega
              go_wp2
              refine bodyPost_ret (v := scV x) (by rw [HXX.out]; simp [results, Try.results49, go_sem, scV]; try rfl) rfl ⟨rfl, ?_⟩
              repeat (first | with_reducible exact below2 _ _ _ | (with_reducible refine Below.setCell ?_ ?_ _; rotate_left; focus (first | (simp; done) | (simp; omega))))
            · skip
              obtain rfl : k = a := by omega
              clear hka
              have hka2 : ¬ (k : Int) < (k : Int) := by omega
              have HXX : Hid (x = ⟨1, 0, 0, s.extract k (k + 1), k + 1, if z = 3 then 2 else 1⟩) := hideP (by rw [HX.out]; unfold nmS; rw [if_neg (by omega), HE.out, if_neg (by omega), HZ.out])
              by_cases hz3 : z = 3
              · subst hz3
                go_wp2
                refine bodyPost_ret (v := scV x) (by rw [HXX.out]; simp [results, Try.results49, go_sem, scV]; try rfl) rfl ⟨rfl, ?_⟩
                repeat (first | with_reducible exact below2 _ _ _ | (with_reducible refine Below.setCell ?_ ?_ _; rotate_left; focus (first | (simp; done) | (simp; omega))))
              · have hz3a : (z == 3) = false := by simp [hz3]
                have hz3b : decide (z = 3) = false := by simp [hz3]
                go_wp2
                refine bodyPost_ret (v := scV x) (by rw [HXX.out, if_neg hz3]; simp [results, Try.results49, go_sem, scV]; try rfl) rfl ⟨rfl, ?_⟩
                repeat (first | with_reducible exact below2 _ _ _ | (with_reducible refine Below.setCell ?_ ?_ _; rotate_left; focus (first | (simp; done) | (simp; omega))))
        · have h40i : ¬ (k : Int) - (a : Int) < 40 := by omega
          have HE : Hid (runL zs s 40 a = k) := hideP (by rw [HR.out, show 40 - (k - a) = 0 by omega]; rfl)
          have hka : a < k := by omega
          have HXX : Hid (x = ⟨1, 0, 0, s.extract a k, k, 2⟩) := hideP (by rw [HX.out]; unfold nmS; rw [if_neg (by omega), HE.out, if_pos hka])
          have hka2 : (a : Int) < (k : Int) := by omega
          go_wp2
          refine bodyPost_ret (v := scV x) (by rw [HXX.out]; simp [results, Try.results49, go_sem, scV]; try rfl) rfl ⟨rfl, ?_⟩
          repeat (first | with_reducible exact below2 _ _ _ | (with_reducible refine Below.setCell ?_ ?_ _; rotate_left; focus (first | (simp; done) | (simp; omega))))
      · have hki : ¬ (k : Int) < (s.size : Int) := by omega
        have HE : Hid (runL zs s 40 a = k) := hideP (by rw [HR.out, runL_stop (by omega)])
        have hka : a < k := by omega
        have HXX : Hid (x = ⟨1, 0, 0, s.extract a k, k, 2⟩) := hideP (by rw [HX.out]; unfold nmS; rw [if_neg (by omega), HE.out, if_pos hka])
        have hka2 : (a : Int) < (k : Int) := by omega
        go_wp2
        refine bodyPost_ret (v := scV x) (by rw [HXX.out]; simp [results, Try.results49, go_sem, scV]; try rfl) rfl ⟨rfl, ?_⟩
        repeat (first | with_reducible exact below2 _ _ _ | (with_reducible refine Below.setCell ?_ ?_ _; rotate_left; focus (first | (simp; done) | (simp; omega))))
end Go.Proofs.Ytkiiiahljlkjnaa
