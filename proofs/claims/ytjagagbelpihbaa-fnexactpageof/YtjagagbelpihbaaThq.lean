/-
  Things of a node, asked whether they are boxes or spaces.
-/
import Derived.Test.YtjagagbelpihbaaThg
namespace Go.Proofs.Ytjagagbelpihbaa
open Go.RowKit
set_option linter.unusedVariables false
set_option linter.unusedSimpArgs false

def boxB (x : Nd) : Bool := x.k == 6 || x.k == 7
def glueB (x : Nd) : Bool := x.k == 3
/-- The assertions to a box and to a space. -/
structure Ask (x : Nd) (v : Value) : Prop where
  bx : ∃ a b c d e f : Int, ∀ W : World, (Instr.typeAssert v 64 123 true).run Try.prog W = .ok (.tuple #[.agg #[.int .i64 a, .int .i64 b, .int .i64 c, .int .i64 d, .int .i64 e, .int .i64 f], .bool (boxB x)]) W
  sp : ∃ a b c d e f : Int, ∀ W : World, (Instr.typeAssert v 64 117 true).run Try.prog W = .ok (.tuple #[.agg #[.int .i64 a, .int .i64 b, .int .i64 c, .int .i64 d, .int .i64 e, .int .i64 f], .bool (glueB x)]) W
/-- The value that the thing of a node is. -/
def thV (x : Nd) : Value :=
  if x.k = 1 then .iface 113 (.agg #[.int .i64 x.fo, .int .i64 x.ch, .int .i64 x.wd, .int .i64 x.ht, .int .i64 x.dp])
  else if x.k = 2 then .iface 115 (.agg #[.int .i64 x.wd])
  else if x.k = 3 then .iface 117 (.agg #[.int .i64 x.gs, .int .i64 x.gp, .int .i64 x.gpo, .int .i64 x.gm, .int .i64 x.gmo, .int .i64 x.wd])
  else if x.k = 4 then .iface 119 (.agg #[.int .i64 x.nn])
  else if x.k = 5 then .iface 121 (.agg #[.int .i64 x.wd, .int .i64 x.ht, .int .i64 x.dp])
  else if x.k = 6 then .iface 123 (.agg #[.int .i64 6, .int .i64 x.wd, .int .i64 x.ht, .int .i64 x.dp, .int .i64 x.sh, .int .i64 x.kids])
  else if x.k = 7 then .iface 123 (.agg #[.int .i64 7, .int .i64 x.wd, .int .i64 x.ht, .int .i64 x.dp, .int .i64 x.sh, .int .i64 x.kids])
  else if x.k = 8 then .iface 125 (.agg #[.int .i64 x.fo, .int .i64 x.ch, .int .i64 x.wd, .int .i64 x.ht, .int .i64 x.dp])
  else if x.k = 9 then .iface 127 (.agg #[.int .i64 9, .string x.tx])
  else if x.k = 10 then .iface 127 (.agg #[.int .i64 10, .string x.tx])
  else if x.k = 11 then .iface 129 (.agg #[.int .i64 x.nn, .int .i64 x.ht, .int .i64 x.kids])
  else .nilIface
def ThingQ (x : Nd) (v : Value) : Prop := ThingP x v ∧ Ask x v ∧ v = thV x
theorem ask_1 (wd ht dp sh fo ch nn gs gp gpo gm gmo kids : Int) (tx : ByteArray) : Ask ⟨1, wd, ht, dp, sh, fo, ch, nn, gs, gp, gpo, gm, gmo, tx, kids⟩ (.iface 113 (.agg #[.int .i64 fo, .int .i64 ch, .int .i64 wd, .int .i64 ht, .int .i64 dp])) where
  bx := ⟨0, 0, 0, 0, 0, 0, fun _ => by kernel_rfl⟩
  sp := ⟨0, 0, 0, 0, 0, 0, fun _ => by kernel_rfl⟩
theorem ask_2 (wd ht dp sh fo ch nn gs gp gpo gm gmo kids : Int) (tx : ByteArray) : Ask ⟨2, wd, ht, dp, sh, fo, ch, nn, gs, gp, gpo, gm, gmo, tx, kids⟩ (.iface 115 (.agg #[.int .i64 wd])) where
  bx := ⟨0, 0, 0, 0, 0, 0, fun _ => by kernel_rfl⟩
  sp := ⟨0, 0, 0, 0, 0, 0, fun _ => by kernel_rfl⟩
theorem ask_3 (wd ht dp sh fo ch nn gs gp gpo gm gmo kids : Int) (tx : ByteArray) : Ask ⟨3, wd, ht, dp, sh, fo, ch, nn, gs, gp, gpo, gm, gmo, tx, kids⟩ (.iface 117 (.agg #[.int .i64 gs, .int .i64 gp, .int .i64 gpo, .int .i64 gm, .int .i64 gmo, .int .i64 wd])) where
  bx := ⟨0, 0, 0, 0, 0, 0, fun _ => by kernel_rfl⟩
  sp := ⟨gs, gp, gpo, gm, gmo, wd, fun _ => by kernel_rfl⟩
theorem ask_4 (wd ht dp sh fo ch nn gs gp gpo gm gmo kids : Int) (tx : ByteArray) : Ask ⟨4, wd, ht, dp, sh, fo, ch, nn, gs, gp, gpo, gm, gmo, tx, kids⟩ (.iface 119 (.agg #[.int .i64 nn])) where
  bx := ⟨0, 0, 0, 0, 0, 0, fun _ => by kernel_rfl⟩
  sp := ⟨0, 0, 0, 0, 0, 0, fun _ => by kernel_rfl⟩
theorem ask_5 (wd ht dp sh fo ch nn gs gp gpo gm gmo kids : Int) (tx : ByteArray) : Ask ⟨5, wd, ht, dp, sh, fo, ch, nn, gs, gp, gpo, gm, gmo, tx, kids⟩ (.iface 121 (.agg #[.int .i64 wd, .int .i64 ht, .int .i64 dp])) where
  bx := ⟨0, 0, 0, 0, 0, 0, fun _ => by kernel_rfl⟩
  sp := ⟨0, 0, 0, 0, 0, 0, fun _ => by kernel_rfl⟩
theorem ask_6 (wd ht dp sh fo ch nn gs gp gpo gm gmo kids : Int) (tx : ByteArray) : Ask ⟨6, wd, ht, dp, sh, fo, ch, nn, gs, gp, gpo, gm, gmo, tx, kids⟩ (.iface 123 (.agg #[.int .i64 6, .int .i64 wd, .int .i64 ht, .int .i64 dp, .int .i64 sh, .int .i64 kids])) where
  bx := ⟨6, wd, ht, dp, sh, kids, fun _ => by kernel_rfl⟩
  sp := ⟨0, 0, 0, 0, 0, 0, fun _ => by kernel_rfl⟩
theorem ask_7 (wd ht dp sh fo ch nn gs gp gpo gm gmo kids : Int) (tx : ByteArray) : Ask ⟨7, wd, ht, dp, sh, fo, ch, nn, gs, gp, gpo, gm, gmo, tx, kids⟩ (.iface 123 (.agg #[.int .i64 7, .int .i64 wd, .int .i64 ht, .int .i64 dp, .int .i64 sh, .int .i64 kids])) where
  bx := ⟨7, wd, ht, dp, sh, kids, fun _ => by kernel_rfl⟩
  sp := ⟨0, 0, 0, 0, 0, 0, fun _ => by kernel_rfl⟩
theorem ask_8 (wd ht dp sh fo ch nn gs gp gpo gm gmo kids : Int) (tx : ByteArray) : Ask ⟨8, wd, ht, dp, sh, fo, ch, nn, gs, gp, gpo, gm, gmo, tx, kids⟩ (.iface 125 (.agg #[.int .i64 fo, .int .i64 ch, .int .i64 wd, .int .i64 ht, .int .i64 dp])) where
  bx := ⟨0, 0, 0, 0, 0, 0, fun _ => by kernel_rfl⟩
  sp := ⟨0, 0, 0, 0, 0, 0, fun _ => by kernel_rfl⟩
theorem ask_9 (wd ht dp sh fo ch nn gs gp gpo gm gmo kids : Int) (tx : ByteArray) : Ask ⟨9, wd, ht, dp, sh, fo, ch, nn, gs, gp, gpo, gm, gmo, tx, kids⟩ (.iface 127 (.agg #[.int .i64 9, .string tx])) where
  bx := ⟨0, 0, 0, 0, 0, 0, fun _ => by kernel_rfl⟩
  sp := ⟨0, 0, 0, 0, 0, 0, fun _ => by kernel_rfl⟩
theorem ask_10 (wd ht dp sh fo ch nn gs gp gpo gm gmo kids : Int) (tx : ByteArray) : Ask ⟨10, wd, ht, dp, sh, fo, ch, nn, gs, gp, gpo, gm, gmo, tx, kids⟩ (.iface 127 (.agg #[.int .i64 10, .string tx])) where
  bx := ⟨0, 0, 0, 0, 0, 0, fun _ => by kernel_rfl⟩
  sp := ⟨0, 0, 0, 0, 0, 0, fun _ => by kernel_rfl⟩
theorem ask_11 (wd ht dp sh fo ch nn gs gp gpo gm gmo kids : Int) (tx : ByteArray) : Ask ⟨11, wd, ht, dp, sh, fo, ch, nn, gs, gp, gpo, gm, gmo, tx, kids⟩ (.iface 129 (.agg #[.int .i64 nn, .int .i64 ht, .int .i64 kids])) where
  bx := ⟨0, 0, 0, 0, 0, 0, fun _ => by kernel_rfl⟩
  sp := ⟨0, 0, 0, 0, 0, 0, fun _ => by kernel_rfl⟩
theorem ask_0 (x : Nd) (h : ¬ (1 ≤ x.k ∧ x.k ≤ 11)) : Ask x .nilIface where
  bx := ⟨0, 0, 0, 0, 0, 0, fun _ => by rw [show boxB x = false by simp [boxB]; omega]; kernel_rfl⟩
  sp := ⟨0, 0, 0, 0, 0, 0, fun _ => by rw [show glueB x = false by simp [glueB]; omega]; kernel_rfl⟩
theorem thing_q (x : Nd) (w : World) : Calls Try.prog 34 #[ndV x] w fun r w' => (∃ v, r = .returned v ∧ ThingQ x v) ∧ Below w.heap.size w w' := by
  obtain ⟨k, wd, ht, dp, sh, fo, ch, nn, gs, gp, gpo, gm, gmo, tx, kids⟩ := x
  by_cases hk : 1 ≤ k ∧ k ≤ 11
  · rcases kinds hk.1 hk.2 with rfl | rfl | rfl | rfl | rfl | rfl | rfl | rfl | rfl | rfl | rfl
    · refine (thing_1 wd ht dp sh fo ch nn gs gp gpo gm gmo kids tx w).mono ?_
      rintro e w' ⟨rfl, hb⟩
      exact ⟨⟨_, rfl, .inr ⟨_, _, _, _, _, _, rfl, thg_1 wd ht dp sh fo ch nn gs gp gpo gm gmo kids tx, .inr (nohld_1 wd ht dp sh fo ch nn gs gp gpo gm gmo kids tx)⟩, ask_1 wd ht dp sh fo ch nn gs gp gpo gm gmo kids tx, by simp [thV]⟩, hb⟩
    · refine (thing_2 wd ht dp sh fo ch nn gs gp gpo gm gmo kids tx w).mono ?_
      rintro e w' ⟨rfl, hb⟩
      exact ⟨⟨_, rfl, .inr ⟨_, _, _, _, _, _, rfl, thg_2 wd ht dp sh fo ch nn gs gp gpo gm gmo kids tx, .inr (nohld_2 wd ht dp sh fo ch nn gs gp gpo gm gmo kids tx)⟩, ask_2 wd ht dp sh fo ch nn gs gp gpo gm gmo kids tx, by simp [thV]⟩, hb⟩
    · refine (thing_3 wd ht dp sh fo ch nn gs gp gpo gm gmo kids tx w).mono ?_
      rintro e w' ⟨rfl, hb⟩
      exact ⟨⟨_, rfl, .inr ⟨_, _, _, _, _, _, rfl, thg_3 wd ht dp sh fo ch nn gs gp gpo gm gmo kids tx, .inr (nohld_3 wd ht dp sh fo ch nn gs gp gpo gm gmo kids tx)⟩, ask_3 wd ht dp sh fo ch nn gs gp gpo gm gmo kids tx, by simp [thV]⟩, hb⟩
    · refine (thing_4 wd ht dp sh fo ch nn gs gp gpo gm gmo kids tx w).mono ?_
      rintro e w' ⟨rfl, hb⟩
      exact ⟨⟨_, rfl, .inr ⟨_, _, _, _, _, _, rfl, thg_4 wd ht dp sh fo ch nn gs gp gpo gm gmo kids tx, .inr (nohld_4 wd ht dp sh fo ch nn gs gp gpo gm gmo kids tx)⟩, ask_4 wd ht dp sh fo ch nn gs gp gpo gm gmo kids tx, by simp [thV]⟩, hb⟩
    · refine (thing_5 wd ht dp sh fo ch nn gs gp gpo gm gmo kids tx w).mono ?_
      rintro e w' ⟨rfl, hb⟩
      exact ⟨⟨_, rfl, .inr ⟨_, _, _, _, _, _, rfl, thg_5 wd ht dp sh fo ch nn gs gp gpo gm gmo kids tx, .inr (nohld_5 wd ht dp sh fo ch nn gs gp gpo gm gmo kids tx)⟩, ask_5 wd ht dp sh fo ch nn gs gp gpo gm gmo kids tx, by simp [thV]⟩, hb⟩
    · refine (thing_6 wd ht dp sh fo ch nn gs gp gpo gm gmo kids tx w).mono ?_
      rintro e w' ⟨rfl, hb⟩
      exact ⟨⟨_, rfl, .inr ⟨_, _, _, _, _, _, rfl, thg_6 wd ht dp sh fo ch nn gs gp gpo gm gmo kids tx, .inl ⟨_, hld_6 wd ht dp sh fo ch nn gs gp gpo gm gmo kids tx⟩⟩, ask_6 wd ht dp sh fo ch nn gs gp gpo gm gmo kids tx, by simp [thV]⟩, hb⟩
    · refine (thing_7 wd ht dp sh fo ch nn gs gp gpo gm gmo kids tx w).mono ?_
      rintro e w' ⟨rfl, hb⟩
      exact ⟨⟨_, rfl, .inr ⟨_, _, _, _, _, _, rfl, thg_7 wd ht dp sh fo ch nn gs gp gpo gm gmo kids tx, .inl ⟨_, hld_7 wd ht dp sh fo ch nn gs gp gpo gm gmo kids tx⟩⟩, ask_7 wd ht dp sh fo ch nn gs gp gpo gm gmo kids tx, by simp [thV]⟩, hb⟩
    · refine (thing_8 wd ht dp sh fo ch nn gs gp gpo gm gmo kids tx w).mono ?_
      rintro e w' ⟨rfl, hb⟩
      exact ⟨⟨_, rfl, .inr ⟨_, _, _, _, _, _, rfl, thg_8 wd ht dp sh fo ch nn gs gp gpo gm gmo kids tx, .inr (nohld_8 wd ht dp sh fo ch nn gs gp gpo gm gmo kids tx)⟩, ask_8 wd ht dp sh fo ch nn gs gp gpo gm gmo kids tx, by simp [thV]⟩, hb⟩
    · refine (thing_9 wd ht dp sh fo ch nn gs gp gpo gm gmo kids tx w).mono ?_
      rintro e w' ⟨rfl, hb⟩
      exact ⟨⟨_, rfl, .inr ⟨_, _, _, _, _, _, rfl, thg_9 wd ht dp sh fo ch nn gs gp gpo gm gmo kids tx, .inr (nohld_9 wd ht dp sh fo ch nn gs gp gpo gm gmo kids tx)⟩, ask_9 wd ht dp sh fo ch nn gs gp gpo gm gmo kids tx, by simp [thV]⟩, hb⟩
    · refine (thing_10 wd ht dp sh fo ch nn gs gp gpo gm gmo kids tx w).mono ?_
      rintro e w' ⟨rfl, hb⟩
      exact ⟨⟨_, rfl, .inr ⟨_, _, _, _, _, _, rfl, thg_10 wd ht dp sh fo ch nn gs gp gpo gm gmo kids tx, .inr (nohld_10 wd ht dp sh fo ch nn gs gp gpo gm gmo kids tx)⟩, ask_10 wd ht dp sh fo ch nn gs gp gpo gm gmo kids tx, by simp [thV]⟩, hb⟩
    · refine (thing_11 wd ht dp sh fo ch nn gs gp gpo gm gmo kids tx w).mono ?_
      rintro e w' ⟨rfl, hb⟩
      exact ⟨⟨_, rfl, .inr ⟨_, _, _, _, _, _, rfl, thg_11 wd ht dp sh fo ch nn gs gp gpo gm gmo kids tx, .inl ⟨_, hld_11 wd ht dp sh fo ch nn gs gp gpo gm gmo kids tx⟩⟩, ask_11 wd ht dp sh fo ch nn gs gp gpo gm gmo kids tx, by simp [thV]⟩, hb⟩
  · refine (thing_0 k wd ht dp sh fo ch nn gs gp gpo gm gmo kids tx w hk).mono ?_
    rintro e w' ⟨rfl, hb⟩
    exact ⟨⟨_, rfl, .inl ⟨rfl, bad_kind _ hk⟩, ask_0 _ hk, by unfold thV; rw [if_neg (by simp only; omega), if_neg (by simp only; omega), if_neg (by simp only; omega), if_neg (by simp only; omega), if_neg (by simp only; omega), if_neg (by simp only; omega), if_neg (by simp only; omega), if_neg (by simp only; omega), if_neg (by simp only; omega), if_neg (by simp only; omega), if_neg (by simp only; omega)]⟩, hb⟩
end Go.Proofs.Ytjagagbelpihbaa
