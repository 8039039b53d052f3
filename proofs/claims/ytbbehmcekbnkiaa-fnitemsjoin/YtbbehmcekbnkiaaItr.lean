/-
  The items of a list, gone through by the program's iterator.
-/
import Derived.Test.YtbbehmcekbnkiaaTha
import Derived.Test.YtbbehmcekbnkiaaThb
import Derived.Test.YtbbehmcekbnkiaaTh6
import Derived.Test.YtbbehmcekbnkiaaTh7
import Derived.Test.YtbbehmcekbnkiaaTh8
import Derived.Test.YtbbehmcekbnkiaaCan
import Derived.Test.YtbbehmcekbnkiaaNde
import Derived.Test.YtbbehmcekbnkiaaNdf
import Derived.Test.YtbbehmcekbnkiaaNdh
import Derived.Stop.Asserts
import Derived.RangeFuncNested
import Derived.RangeFuncBound
import Derived.RangeFuncCalls
import Derived.RangeFuncLeaves
import Derived.Shelf.Abstract
import Derived.Shelf.RegionOpen
import Derived.WalkKit
import Derived.OwnWalkIn
import Derived.TacticsInMore
import Derived.LoopNIn
import Derived.LoopIn
namespace Go.Proofs.Ytbbehmcekbnkiaa
open Go.RowKit
set_option linter.unusedVariables false
set_option linter.unusedSimpArgs false

/-- A thing as the program asks it: whether it can be (cb), its plain node (y). -/
structure Thg (x : Nd) (X : Nat) (p : Value) (Kc Kn : Nat) (cb : Bool) (y : Nd) : Prop where
  mc : ∀ W : World, (method 259 X p "loop.example/g00014/impl.can").run Try.prog W = .ok (Kc, p) W
  fc : ∀ W : World, (callFunc Kc #[p]).run Try.prog W = .ok (.enter Kc #[p]) W
  cc : ∀ W : World, Calls Try.prog Kc #[p] W fun e w' => e = .returned (.bool cb) ∧ Below W.heap.size W w'
  mn : ∀ W : World, (method 259 X p "loop.example/g00014/impl.node").run Try.prog W = .ok (Kn, p) W
  fn : ∀ W : World, (callFunc Kn #[p]).run Try.prog W = .ok (.enter Kn #[p]) W
  cn : ∀ W : World, Calls Try.prog Kn #[p] W fun e w' => e = .returned (ndV y) ∧ Below W.heap.size W w'
  good : (cb && eqNd y x) = goodB x
structure Hld (x : Nd) (X : Nat) (p : Value) (Kh : Nat) : Prop where
  ta : ∀ W : World, (Instr.typeAssert (.iface X p) 44 49 true).run Try.prog W = .ok (.tuple #[.iface X p, .bool true]) W
  mh : ∀ W : World, (method 259 X p "loop.example/g00014/impl.holds").run Try.prog W = .ok (Kh, p) W
  fh : ∀ W : World, (callFunc Kh #[p]).run Try.prog W = .ok (.enter Kh #[p]) W
  ch : ∀ W : World, Calls Try.prog Kh #[p] W fun e w' => e = .returned (.int .i64 x.kids) ∧ Below W.heap.size W w'
  deep : deepB x = true
structure NoHld (x : Nd) (X : Nat) (p : Value) : Prop where
  ta : ∀ W : World, (Instr.typeAssert (.iface X p) 44 49 true).run Try.prog W = .ok (.tuple #[.nilIface, .bool false]) W
  deep : deepB x = false
def ThingP (x : Nd) (v : Value) : Prop :=
  (v = .nilIface ∧ goodB x = false) ∨ ∃ X p Kc Kn cb y, v = .iface X p ∧ Thg x X p Kc Kn cb y ∧ ((∃ Kh, Hld x X p Kh) ∨ NoHld x X p)

theorem thg_1 (wd ht dp sh fo ch nn gs gp gpo gm gmo kids : Int) (tx : ByteArray) : Thg ⟨1, wd, ht, dp, sh, fo, ch, nn, gs, gp, gpo, gm, gmo, tx, kids⟩ 64 (.agg #[.int .i64 fo, .int .i64 ch, .int .i64 wd, .int .i64 ht, .int .i64 dp]) 84 85 (uptoB fo 15 && uptoB ch 255 && (fitsB wd && fitsB ht && fitsB dp)) ⟨1, wd, ht, dp, 0, fo, ch, 0, 0, 0, 0, 0, 0, ⟨#[]⟩, 0⟩ where
  mc := fun _ => by kernel_rfl
  fc := fun _ => by kernel_rfl
  cc := fun W => can_letter fo ch wd ht dp W
  mn := fun _ => by kernel_rfl
  fn := fun _ => by kernel_rfl
  cn := fun W => node_letter fo ch wd ht dp W
  good := good_1 wd ht dp sh fo ch nn gs gp gpo gm gmo kids tx
theorem nohld_1 (wd ht dp sh fo ch nn gs gp gpo gm gmo kids : Int) (tx : ByteArray) : NoHld ⟨1, wd, ht, dp, sh, fo, ch, nn, gs, gp, gpo, gm, gmo, tx, kids⟩ 64 (.agg #[.int .i64 fo, .int .i64 ch, .int .i64 wd, .int .i64 ht, .int .i64 dp]) where
  ta := fun W => run_typeAssert_lacksB Try.underlying49 (by kernel_rfl) (by kernel_rfl) _ 44 W
  deep := by simp [deepB]

theorem thg_2 (wd ht dp sh fo ch nn gs gp gpo gm gmo kids : Int) (tx : ByteArray) : Thg ⟨2, wd, ht, dp, sh, fo, ch, nn, gs, gp, gpo, gm, gmo, tx, kids⟩ 66 (.agg #[.int .i64 wd]) 89 90 (fitsB wd) ⟨2, wd, 0, 0, 0, 0, 0, 0, 0, 0, 0, 0, 0, ⟨#[]⟩, 0⟩ where
  mc := fun _ => by kernel_rfl
  fc := fun _ => by kernel_rfl
  cc := fun W => can_kern wd W
  mn := fun _ => by kernel_rfl
  fn := fun _ => by kernel_rfl
  cn := fun W => node_kern wd W
  good := good_2 wd ht dp sh fo ch nn gs gp gpo gm gmo kids tx
theorem nohld_2 (wd ht dp sh fo ch nn gs gp gpo gm gmo kids : Int) (tx : ByteArray) : NoHld ⟨2, wd, ht, dp, sh, fo, ch, nn, gs, gp, gpo, gm, gmo, tx, kids⟩ 66 (.agg #[.int .i64 wd]) where
  ta := fun W => run_typeAssert_lacksB Try.underlying49 (by kernel_rfl) (by kernel_rfl) _ 44 W
  deep := by simp [deepB]

theorem thg_3 (wd ht dp sh fo ch nn gs gp gpo gm gmo kids : Int) (tx : ByteArray) : Thg ⟨3, wd, ht, dp, sh, fo, ch, nn, gs, gp, gpo, gm, gmo, tx, kids⟩ 68 (.agg #[.int .i64 gs, .int .i64 gp, .int .i64 gpo, .int .i64 gm, .int .i64 gmo, .int .i64 wd]) 91 92 (glB gs gp gpo gm gmo && fitsB wd) ⟨3, wd, 0, 0, 0, 0, 0, 0, gs, gp, gpo, gm, gmo, ⟨#[]⟩, 0⟩ where
  mc := fun _ => by kernel_rfl
  fc := fun _ => by kernel_rfl
  cc := fun W => can_space gs gp gpo gm gmo wd W
  mn := fun _ => by kernel_rfl
  fn := fun _ => by kernel_rfl
  cn := fun W => node_space gs gp gpo gm gmo wd W
  good := good_3 wd ht dp sh fo ch nn gs gp gpo gm gmo kids tx
theorem nohld_3 (wd ht dp sh fo ch nn gs gp gpo gm gmo kids : Int) (tx : ByteArray) : NoHld ⟨3, wd, ht, dp, sh, fo, ch, nn, gs, gp, gpo, gm, gmo, tx, kids⟩ 68 (.agg #[.int .i64 gs, .int .i64 gp, .int .i64 gpo, .int .i64 gm, .int .i64 gmo, .int .i64 wd]) where
  ta := fun W => run_typeAssert_lacksB Try.underlying49 (by kernel_rfl) (by kernel_rfl) _ 44 W
  deep := by simp [deepB]

theorem thg_4 (wd ht dp sh fo ch nn gs gp gpo gm gmo kids : Int) (tx : ByteArray) : Thg ⟨4, wd, ht, dp, sh, fo, ch, nn, gs, gp, gpo, gm, gmo, tx, kids⟩ 70 (.agg #[.int .i64 nn]) 95 96 (decide (-10000 ≤ nn) && decide (nn ≤ 10000)) ⟨4, 0, 0, 0, 0, 0, 0, nn, 0, 0, 0, 0, 0, ⟨#[]⟩, 0⟩ where
  mc := fun _ => by kernel_rfl
  fc := fun _ => by kernel_rfl
  cc := fun W => can_penalty nn W
  mn := fun _ => by kernel_rfl
  fn := fun _ => by kernel_rfl
  cn := fun W => node_penalty nn W
  good := good_4 wd ht dp sh fo ch nn gs gp gpo gm gmo kids tx
theorem nohld_4 (wd ht dp sh fo ch nn gs gp gpo gm gmo kids : Int) (tx : ByteArray) : NoHld ⟨4, wd, ht, dp, sh, fo, ch, nn, gs, gp, gpo, gm, gmo, tx, kids⟩ 70 (.agg #[.int .i64 nn]) where
  ta := fun W => run_typeAssert_lacksB Try.underlying49 (by kernel_rfl) (by kernel_rfl) _ 44 W
  deep := by simp [deepB]

theorem thg_5 (wd ht dp sh fo ch nn gs gp gpo gm gmo kids : Int) (tx : ByteArray) : Thg ⟨5, wd, ht, dp, sh, fo, ch, nn, gs, gp, gpo, gm, gmo, tx, kids⟩ 72 (.agg #[.int .i64 wd, .int .i64 ht, .int .i64 dp]) 97 98 (fitsB wd && fitsB ht && fitsB dp) ⟨5, wd, ht, dp, 0, 0, 0, 0, 0, 0, 0, 0, 0, ⟨#[]⟩, 0⟩ where
  mc := fun _ => by kernel_rfl
  fc := fun _ => by kernel_rfl
  cc := fun W => can_rule wd ht dp W
  mn := fun _ => by kernel_rfl
  fn := fun _ => by kernel_rfl
  cn := fun W => node_rule wd ht dp W
  good := good_5 wd ht dp sh fo ch nn gs gp gpo gm gmo kids tx
theorem nohld_5 (wd ht dp sh fo ch nn gs gp gpo gm gmo kids : Int) (tx : ByteArray) : NoHld ⟨5, wd, ht, dp, sh, fo, ch, nn, gs, gp, gpo, gm, gmo, tx, kids⟩ 72 (.agg #[.int .i64 wd, .int .i64 ht, .int .i64 dp]) where
  ta := fun W => run_typeAssert_lacksB Try.underlying49 (by kernel_rfl) (by kernel_rfl) _ 44 W
  deep := by simp [deepB]

theorem thg_6 (wd ht dp sh fo ch nn gs gp gpo gm gmo kids : Int) (tx : ByteArray) : Thg ⟨6, wd, ht, dp, sh, fo, ch, nn, gs, gp, gpo, gm, gmo, tx, kids⟩ 74 (.agg #[.int .i64 6, .int .i64 wd, .int .i64 ht, .int .i64 dp, .int .i64 sh, .int .i64 kids]) 99 101 ((fitsB wd && fitsB ht && fitsB dp) && fitsB sh && decide (0 ≤ kids)) ⟨6, wd, ht, dp, sh, 0, 0, 0, 0, 0, 0, 0, 0, ⟨#[]⟩, kids⟩ where
  mc := fun _ => by kernel_rfl
  fc := fun _ => by kernel_rfl
  cc := fun W => can_box 6 wd ht dp sh kids W
  mn := fun _ => by kernel_rfl
  fn := fun _ => by kernel_rfl
  cn := fun W => node_box 6 wd ht dp sh kids W
  good := good_6 wd ht dp sh fo ch nn gs gp gpo gm gmo kids tx
theorem hld_6 (wd ht dp sh fo ch nn gs gp gpo gm gmo kids : Int) (tx : ByteArray) : Hld ⟨6, wd, ht, dp, sh, fo, ch, nn, gs, gp, gpo, gm, gmo, tx, kids⟩ 74 (.agg #[.int .i64 6, .int .i64 wd, .int .i64 ht, .int .i64 dp, .int .i64 sh, .int .i64 kids]) 100 where
  ta := fun W => run_typeAssert_hasB Try.underlying49 (by kernel_rfl) _ 44 W
  mh := fun _ => by kernel_rfl
  fh := fun _ => by kernel_rfl
  ch := fun W => holds_box 6 wd ht dp sh kids W
  deep := by simp [deepB]

theorem thg_7 (wd ht dp sh fo ch nn gs gp gpo gm gmo kids : Int) (tx : ByteArray) : Thg ⟨7, wd, ht, dp, sh, fo, ch, nn, gs, gp, gpo, gm, gmo, tx, kids⟩ 74 (.agg #[.int .i64 7, .int .i64 wd, .int .i64 ht, .int .i64 dp, .int .i64 sh, .int .i64 kids]) 99 101 ((fitsB wd && fitsB ht && fitsB dp) && fitsB sh && decide (0 ≤ kids)) ⟨7, wd, ht, dp, sh, 0, 0, 0, 0, 0, 0, 0, 0, ⟨#[]⟩, kids⟩ where
  mc := fun _ => by kernel_rfl
  fc := fun _ => by kernel_rfl
  cc := fun W => can_box 7 wd ht dp sh kids W
  mn := fun _ => by kernel_rfl
  fn := fun _ => by kernel_rfl
  cn := fun W => node_box 7 wd ht dp sh kids W
  good := good_7 wd ht dp sh fo ch nn gs gp gpo gm gmo kids tx
theorem hld_7 (wd ht dp sh fo ch nn gs gp gpo gm gmo kids : Int) (tx : ByteArray) : Hld ⟨7, wd, ht, dp, sh, fo, ch, nn, gs, gp, gpo, gm, gmo, tx, kids⟩ 74 (.agg #[.int .i64 7, .int .i64 wd, .int .i64 ht, .int .i64 dp, .int .i64 sh, .int .i64 kids]) 100 where
  ta := fun W => run_typeAssert_hasB Try.underlying49 (by kernel_rfl) _ 44 W
  mh := fun _ => by kernel_rfl
  fh := fun _ => by kernel_rfl
  ch := fun W => holds_box 7 wd ht dp sh kids W
  deep := by simp [deepB]

theorem thg_8 (wd ht dp sh fo ch nn gs gp gpo gm gmo kids : Int) (tx : ByteArray) : Thg ⟨8, wd, ht, dp, sh, fo, ch, nn, gs, gp, gpo, gm, gmo, tx, kids⟩ 76 (.agg #[.int .i64 fo, .int .i64 ch, .int .i64 wd, .int .i64 ht, .int .i64 dp]) 102 103 (uptoB fo 15 && uptoB ch 255 && (fitsB wd && fitsB ht && fitsB dp)) ⟨8, wd, ht, dp, 0, fo, ch, 0, 0, 0, 0, 0, 0, ⟨#[]⟩, 0⟩ where
  mc := fun _ => by kernel_rfl
  fc := fun _ => by kernel_rfl
  cc := fun W => can_hyphen fo ch wd ht dp W
  mn := fun _ => by kernel_rfl
  fn := fun _ => by kernel_rfl
  cn := fun W => node_hyphen fo ch wd ht dp W
  good := good_8 wd ht dp sh fo ch nn gs gp gpo gm gmo kids tx
theorem nohld_8 (wd ht dp sh fo ch nn gs gp gpo gm gmo kids : Int) (tx : ByteArray) : NoHld ⟨8, wd, ht, dp, sh, fo, ch, nn, gs, gp, gpo, gm, gmo, tx, kids⟩ 76 (.agg #[.int .i64 fo, .int .i64 ch, .int .i64 wd, .int .i64 ht, .int .i64 dp]) where
  ta := fun W => run_typeAssert_lacksB Try.underlying49 (by kernel_rfl) (by kernel_rfl) _ 44 W
  deep := by simp [deepB]

theorem thg_9 (wd ht dp sh fo ch nn gs gp gpo gm gmo kids : Int) (tx : ByteArray) : Thg ⟨9, wd, ht, dp, sh, fo, ch, nn, gs, gp, gpo, gm, gmo, tx, kids⟩ 78 (.agg #[.int .i64 9, .string tx]) 104 105 (decide ((tx.size : Int) ≤ 1000)) ⟨9, 0, 0, 0, 0, 0, 0, 0, 0, 0, 0, 0, 0, tx, 0⟩ where
  mc := fun _ => by kernel_rfl
  fc := fun _ => by kernel_rfl
  cc := fun W => can_message 9 tx W
  mn := fun _ => by kernel_rfl
  fn := fun _ => by kernel_rfl
  cn := fun W => node_message 9 tx W
  good := good_9 wd ht dp sh fo ch nn gs gp gpo gm gmo kids tx
theorem nohld_9 (wd ht dp sh fo ch nn gs gp gpo gm gmo kids : Int) (tx : ByteArray) : NoHld ⟨9, wd, ht, dp, sh, fo, ch, nn, gs, gp, gpo, gm, gmo, tx, kids⟩ 78 (.agg #[.int .i64 9, .string tx]) where
  ta := fun W => run_typeAssert_lacksB Try.underlying49 (by kernel_rfl) (by kernel_rfl) _ 44 W
  deep := by simp [deepB]

theorem thg_10 (wd ht dp sh fo ch nn gs gp gpo gm gmo kids : Int) (tx : ByteArray) : Thg ⟨10, wd, ht, dp, sh, fo, ch, nn, gs, gp, gpo, gm, gmo, tx, kids⟩ 78 (.agg #[.int .i64 10, .string tx]) 104 105 (decide ((tx.size : Int) ≤ 1000)) ⟨10, 0, 0, 0, 0, 0, 0, 0, 0, 0, 0, 0, 0, tx, 0⟩ where
  mc := fun _ => by kernel_rfl
  fc := fun _ => by kernel_rfl
  cc := fun W => can_message 10 tx W
  mn := fun _ => by kernel_rfl
  fn := fun _ => by kernel_rfl
  cn := fun W => node_message 10 tx W
  good := good_10 wd ht dp sh fo ch nn gs gp gpo gm gmo kids tx
theorem nohld_10 (wd ht dp sh fo ch nn gs gp gpo gm gmo kids : Int) (tx : ByteArray) : NoHld ⟨10, wd, ht, dp, sh, fo, ch, nn, gs, gp, gpo, gm, gmo, tx, kids⟩ 78 (.agg #[.int .i64 10, .string tx]) where
  ta := fun W => run_typeAssert_lacksB Try.underlying49 (by kernel_rfl) (by kernel_rfl) _ 44 W
  deep := by simp [deepB]

theorem thg_11 (wd ht dp sh fo ch nn gs gp gpo gm gmo kids : Int) (tx : ByteArray) : Thg ⟨11, wd, ht, dp, sh, fo, ch, nn, gs, gp, gpo, gm, gmo, tx, kids⟩ 80 (.agg #[.int .i64 nn, .int .i64 ht, .int .i64 kids]) 106 108 (uptoB nn 15 && fitsB ht && decide (0 ≤ kids)) ⟨11, 0, ht, 0, 0, 0, 0, nn, 0, 0, 0, 0, 0, ⟨#[]⟩, kids⟩ where
  mc := fun _ => by kernel_rfl
  fc := fun _ => by kernel_rfl
  cc := fun W => can_note nn ht kids W
  mn := fun _ => by kernel_rfl
  fn := fun _ => by kernel_rfl
  cn := fun W => node_note nn ht kids W
  good := good_11 wd ht dp sh fo ch nn gs gp gpo gm gmo kids tx
theorem hld_11 (wd ht dp sh fo ch nn gs gp gpo gm gmo kids : Int) (tx : ByteArray) : Hld ⟨11, wd, ht, dp, sh, fo, ch, nn, gs, gp, gpo, gm, gmo, tx, kids⟩ 80 (.agg #[.int .i64 nn, .int .i64 ht, .int .i64 kids]) 107 where
  ta := fun W => run_typeAssert_hasB Try.underlying49 (by kernel_rfl) _ 44 W
  mh := fun _ => by kernel_rfl
  fh := fun _ => by kernel_rfl
  ch := fun W => holds_note nn ht kids W
  deep := by simp [deepB]

theorem bad_kind (x : Nd) (h : ¬ (1 ≤ x.k ∧ x.k ≤ 11)) : goodB x = false := by simp [goodB, specB, h]
theorem thing_any (x : Nd) (w : World) : Calls Try.prog 13 #[ndV x] w fun r w' => (∃ v, r = .returned v ∧ ThingP x v) ∧ Below w.heap.size w w' := by
  obtain ⟨k, wd, ht, dp, sh, fo, ch, nn, gs, gp, gpo, gm, gmo, tx, kids⟩ := x
  by_cases hk : 1 ≤ k ∧ k ≤ 11
  · rcases kinds hk.1 hk.2 with rfl | rfl | rfl | rfl | rfl | rfl | rfl | rfl | rfl | rfl | rfl
    · refine (thing_1 wd ht dp sh fo ch nn gs gp gpo gm gmo kids tx w).mono ?_
      rintro e w' ⟨rfl, hb⟩
      exact ⟨⟨_, rfl, .inr ⟨_, _, _, _, _, _, rfl, thg_1 wd ht dp sh fo ch nn gs gp gpo gm gmo kids tx, .inr (nohld_1 wd ht dp sh fo ch nn gs gp gpo gm gmo kids tx)⟩⟩, hb⟩
    · refine (thing_2 wd ht dp sh fo ch nn gs gp gpo gm gmo kids tx w).mono ?_
      rintro e w' ⟨rfl, hb⟩
      exact ⟨⟨_, rfl, .inr ⟨_, _, _, _, _, _, rfl, thg_2 wd ht dp sh fo ch nn gs gp gpo gm gmo kids tx, .inr (nohld_2 wd ht dp sh fo ch nn gs gp gpo gm gmo kids tx)⟩⟩, hb⟩
    · refine (thing_3 wd ht dp sh fo ch nn gs gp gpo gm gmo kids tx w).mono ?_
      rintro e w' ⟨rfl, hb⟩
      exact ⟨⟨_, rfl, .inr ⟨_, _, _, _, _, _, rfl, thg_3 wd ht dp sh fo ch nn gs gp gpo gm gmo kids tx, .inr (nohld_3 wd ht dp sh fo ch nn gs gp gpo gm gmo kids tx)⟩⟩, hb⟩
    · refine (thing_4 wd ht dp sh fo ch nn gs gp gpo gm gmo kids tx w).mono ?_
      rintro e w' ⟨rfl, hb⟩
      exact ⟨⟨_, rfl, .inr ⟨_, _, _, _, _, _, rfl, thg_4 wd ht dp sh fo ch nn gs gp gpo gm gmo kids tx, .inr (nohld_4 wd ht dp sh fo ch nn gs gp gpo gm gmo kids tx)⟩⟩, hb⟩
    · refine (thing_5 wd ht dp sh fo ch nn gs gp gpo gm gmo kids tx w).mono ?_
      rintro e w' ⟨rfl, hb⟩
      exact ⟨⟨_, rfl, .inr ⟨_, _, _, _, _, _, rfl, thg_5 wd ht dp sh fo ch nn gs gp gpo gm gmo kids tx, .inr (nohld_5 wd ht dp sh fo ch nn gs gp gpo gm gmo kids tx)⟩⟩, hb⟩
    · refine (thing_6 wd ht dp sh fo ch nn gs gp gpo gm gmo kids tx w).mono ?_
      rintro e w' ⟨rfl, hb⟩
      exact ⟨⟨_, rfl, .inr ⟨_, _, _, _, _, _, rfl, thg_6 wd ht dp sh fo ch nn gs gp gpo gm gmo kids tx, .inl ⟨_, hld_6 wd ht dp sh fo ch nn gs gp gpo gm gmo kids tx⟩⟩⟩, hb⟩
    · refine (thing_7 wd ht dp sh fo ch nn gs gp gpo gm gmo kids tx w).mono ?_
      rintro e w' ⟨rfl, hb⟩
      exact ⟨⟨_, rfl, .inr ⟨_, _, _, _, _, _, rfl, thg_7 wd ht dp sh fo ch nn gs gp gpo gm gmo kids tx, .inl ⟨_, hld_7 wd ht dp sh fo ch nn gs gp gpo gm gmo kids tx⟩⟩⟩, hb⟩
    · refine (thing_8 wd ht dp sh fo ch nn gs gp gpo gm gmo kids tx w).mono ?_
      rintro e w' ⟨rfl, hb⟩
      exact ⟨⟨_, rfl, .inr ⟨_, _, _, _, _, _, rfl, thg_8 wd ht dp sh fo ch nn gs gp gpo gm gmo kids tx, .inr (nohld_8 wd ht dp sh fo ch nn gs gp gpo gm gmo kids tx)⟩⟩, hb⟩
    · refine (thing_9 wd ht dp sh fo ch nn gs gp gpo gm gmo kids tx w).mono ?_
      rintro e w' ⟨rfl, hb⟩
      exact ⟨⟨_, rfl, .inr ⟨_, _, _, _, _, _, rfl, thg_9 wd ht dp sh fo ch nn gs gp gpo gm gmo kids tx, .inr (nohld_9 wd ht dp sh fo ch nn gs gp gpo gm gmo kids tx)⟩⟩, hb⟩
    · refine (thing_10 wd ht dp sh fo ch nn gs gp gpo gm gmo kids tx w).mono ?_
      rintro e w' ⟨rfl, hb⟩
      exact ⟨⟨_, rfl, .inr ⟨_, _, _, _, _, _, rfl, thg_10 wd ht dp sh fo ch nn gs gp gpo gm gmo kids tx, .inr (nohld_10 wd ht dp sh fo ch nn gs gp gpo gm gmo kids tx)⟩⟩, hb⟩
    · refine (thing_11 wd ht dp sh fo ch nn gs gp gpo gm gmo kids tx w).mono ?_
      rintro e w' ⟨rfl, hb⟩
      exact ⟨⟨_, rfl, .inr ⟨_, _, _, _, _, _, rfl, thg_11 wd ht dp sh fo ch nn gs gp gpo gm gmo kids tx, .inl ⟨_, hld_11 wd ht dp sh fo ch nn gs gp gpo gm gmo kids tx⟩⟩⟩, hb⟩
  · refine (thing_0 k wd ht dp sh fo ch nn gs gp gpo gm gmo kids tx w hk).mono ?_
    rintro e w' ⟨rfl, hb⟩
    exact ⟨⟨_, rfl, .inl ⟨rfl, bad_kind _ hk⟩⟩, hb⟩

def boxB (x : Nd) : Bool := x.k == 6 || x.k == 7
def glueB (x : Nd) : Bool := x.k == 3
/-- The assertions to a box and to a space. -/
structure Ask (x : Nd) (v : Value) : Prop where
  bx : ∃ a b c d e f : Int, ∀ W : World, (Instr.typeAssert v 44 74 true).run Try.prog W = .ok (.tuple #[.agg #[.int .i64 a, .int .i64 b, .int .i64 c, .int .i64 d, .int .i64 e, .int .i64 f], .bool (boxB x)]) W
  sp : ∃ a b c d e f : Int, ∀ W : World, (Instr.typeAssert v 44 68 true).run Try.prog W = .ok (.tuple #[.agg #[.int .i64 a, .int .i64 b, .int .i64 c, .int .i64 d, .int .i64 e, .int .i64 f], .bool (glueB x)]) W
/-- The value that the thing of a node is. -/
def thV (x : Nd) : Value :=
  if x.k = 1 then .iface 64 (.agg #[.int .i64 x.fo, .int .i64 x.ch, .int .i64 x.wd, .int .i64 x.ht, .int .i64 x.dp])
  else if x.k = 2 then .iface 66 (.agg #[.int .i64 x.wd])
  else if x.k = 3 then .iface 68 (.agg #[.int .i64 x.gs, .int .i64 x.gp, .int .i64 x.gpo, .int .i64 x.gm, .int .i64 x.gmo, .int .i64 x.wd])
  else if x.k = 4 then .iface 70 (.agg #[.int .i64 x.nn])
  else if x.k = 5 then .iface 72 (.agg #[.int .i64 x.wd, .int .i64 x.ht, .int .i64 x.dp])
  else if x.k = 6 then .iface 74 (.agg #[.int .i64 6, .int .i64 x.wd, .int .i64 x.ht, .int .i64 x.dp, .int .i64 x.sh, .int .i64 x.kids])
  else if x.k = 7 then .iface 74 (.agg #[.int .i64 7, .int .i64 x.wd, .int .i64 x.ht, .int .i64 x.dp, .int .i64 x.sh, .int .i64 x.kids])
  else if x.k = 8 then .iface 76 (.agg #[.int .i64 x.fo, .int .i64 x.ch, .int .i64 x.wd, .int .i64 x.ht, .int .i64 x.dp])
  else if x.k = 9 then .iface 78 (.agg #[.int .i64 9, .string x.tx])
  else if x.k = 10 then .iface 78 (.agg #[.int .i64 10, .string x.tx])
  else if x.k = 11 then .iface 80 (.agg #[.int .i64 x.nn, .int .i64 x.ht, .int .i64 x.kids])
  else .nilIface
def ThingQ (x : Nd) (v : Value) : Prop := ThingP x v ∧ Ask x v ∧ v = thV x
theorem ask_1 (wd ht dp sh fo ch nn gs gp gpo gm gmo kids : Int) (tx : ByteArray) : Ask ⟨1, wd, ht, dp, sh, fo, ch, nn, gs, gp, gpo, gm, gmo, tx, kids⟩ (.iface 64 (.agg #[.int .i64 fo, .int .i64 ch, .int .i64 wd, .int .i64 ht, .int .i64 dp])) where
  bx := ⟨0, 0, 0, 0, 0, 0, fun _ => by kernel_rfl⟩
  sp := ⟨0, 0, 0, 0, 0, 0, fun _ => by kernel_rfl⟩
theorem ask_2 (wd ht dp sh fo ch nn gs gp gpo gm gmo kids : Int) (tx : ByteArray) : Ask ⟨2, wd, ht, dp, sh, fo, ch, nn, gs, gp, gpo, gm, gmo, tx, kids⟩ (.iface 66 (.agg #[.int .i64 wd])) where
  bx := ⟨0, 0, 0, 0, 0, 0, fun _ => by kernel_rfl⟩
  sp := ⟨0, 0, 0, 0, 0, 0, fun _ => by kernel_rfl⟩
theorem ask_3 (wd ht dp sh fo ch nn gs gp gpo gm gmo kids : Int) (tx : ByteArray) : Ask ⟨3, wd, ht, dp, sh, fo, ch, nn, gs, gp, gpo, gm, gmo, tx, kids⟩ (.iface 68 (.agg #[.int .i64 gs, .int .i64 gp, .int .i64 gpo, .int .i64 gm, .int .i64 gmo, .int .i64 wd])) where
  bx := ⟨0, 0, 0, 0, 0, 0, fun _ => by kernel_rfl⟩
  sp := ⟨gs, gp, gpo, gm, gmo, wd, fun _ => by kernel_rfl⟩
theorem ask_4 (wd ht dp sh fo ch nn gs gp gpo gm gmo kids : Int) (tx : ByteArray) : Ask ⟨4, wd, ht, dp, sh, fo, ch, nn, gs, gp, gpo, gm, gmo, tx, kids⟩ (.iface 70 (.agg #[.int .i64 nn])) where
  bx := ⟨0, 0, 0, 0, 0, 0, fun _ => by kernel_rfl⟩
  sp := ⟨0, 0, 0, 0, 0, 0, fun _ => by kernel_rfl⟩
theorem ask_5 (wd ht dp sh fo ch nn gs gp gpo gm gmo kids : Int) (tx : ByteArray) : Ask ⟨5, wd, ht, dp, sh, fo, ch, nn, gs, gp, gpo, gm, gmo, tx, kids⟩ (.iface 72 (.agg #[.int .i64 wd, .int .i64 ht, .int .i64 dp])) where
  bx := ⟨0, 0, 0, 0, 0, 0, fun _ => by kernel_rfl⟩
  sp := ⟨0, 0, 0, 0, 0, 0, fun _ => by kernel_rfl⟩
theorem ask_6 (wd ht dp sh fo ch nn gs gp gpo gm gmo kids : Int) (tx : ByteArray) : Ask ⟨6, wd, ht, dp, sh, fo, ch, nn, gs, gp, gpo, gm, gmo, tx, kids⟩ (.iface 74 (.agg #[.int .i64 6, .int .i64 wd, .int .i64 ht, .int .i64 dp, .int .i64 sh, .int .i64 kids])) where
  bx := ⟨6, wd, ht, dp, sh, kids, fun _ => by kernel_rfl⟩
  sp := ⟨0, 0, 0, 0, 0, 0, fun _ => by kernel_rfl⟩
theorem ask_7 (wd ht dp sh fo ch nn gs gp gpo gm gmo kids : Int) (tx : ByteArray) : Ask ⟨7, wd, ht, dp, sh, fo, ch, nn, gs, gp, gpo, gm, gmo, tx, kids⟩ (.iface 74 (.agg #[.int .i64 7, .int .i64 wd, .int .i64 ht, .int .i64 dp, .int .i64 sh, .int .i64 kids])) where
  bx := ⟨7, wd, ht, dp, sh, kids, fun _ => by kernel_rfl⟩
  sp := ⟨0, 0, 0, 0, 0, 0, fun _ => by kernel_rfl⟩
theorem ask_8 (wd ht dp sh fo ch nn gs gp gpo gm gmo kids : Int) (tx : ByteArray) : Ask ⟨8, wd, ht, dp, sh, fo, ch, nn, gs, gp, gpo, gm, gmo, tx, kids⟩ (.iface 76 (.agg #[.int .i64 fo, .int .i64 ch, .int .i64 wd, .int .i64 ht, .int .i64 dp])) where
  bx := ⟨0, 0, 0, 0, 0, 0, fun _ => by kernel_rfl⟩
  sp := ⟨0, 0, 0, 0, 0, 0, fun _ => by kernel_rfl⟩
theorem ask_9 (wd ht dp sh fo ch nn gs gp gpo gm gmo kids : Int) (tx : ByteArray) : Ask ⟨9, wd, ht, dp, sh, fo, ch, nn, gs, gp, gpo, gm, gmo, tx, kids⟩ (.iface 78 (.agg #[.int .i64 9, .string tx])) where
  bx := ⟨0, 0, 0, 0, 0, 0, fun _ => by kernel_rfl⟩
  sp := ⟨0, 0, 0, 0, 0, 0, fun _ => by kernel_rfl⟩
theorem ask_10 (wd ht dp sh fo ch nn gs gp gpo gm gmo kids : Int) (tx : ByteArray) : Ask ⟨10, wd, ht, dp, sh, fo, ch, nn, gs, gp, gpo, gm, gmo, tx, kids⟩ (.iface 78 (.agg #[.int .i64 10, .string tx])) where
  bx := ⟨0, 0, 0, 0, 0, 0, fun _ => by kernel_rfl⟩
  sp := ⟨0, 0, 0, 0, 0, 0, fun _ => by kernel_rfl⟩
theorem ask_11 (wd ht dp sh fo ch nn gs gp gpo gm gmo kids : Int) (tx : ByteArray) : Ask ⟨11, wd, ht, dp, sh, fo, ch, nn, gs, gp, gpo, gm, gmo, tx, kids⟩ (.iface 80 (.agg #[.int .i64 nn, .int .i64 ht, .int .i64 kids])) where
  bx := ⟨0, 0, 0, 0, 0, 0, fun _ => by kernel_rfl⟩
  sp := ⟨0, 0, 0, 0, 0, 0, fun _ => by kernel_rfl⟩
theorem ask_0 (x : Nd) (h : ¬ (1 ≤ x.k ∧ x.k ≤ 11)) : Ask x .nilIface where
  bx := ⟨0, 0, 0, 0, 0, 0, fun _ => by rw [show boxB x = false by simp [boxB]; omega]; kernel_rfl⟩
  sp := ⟨0, 0, 0, 0, 0, 0, fun _ => by rw [show glueB x = false by simp [glueB]; omega]; kernel_rfl⟩
theorem thing_q (x : Nd) (w : World) : Calls Try.prog 13 #[ndV x] w fun r w' => (∃ v, r = .returned v ∧ ThingQ x v) ∧ Below w.heap.size w w' := by
  obtain ⟨k, wd, ht, dp, sh, fo, ch, nn, gs, gp, gpo, gm, gmo, tx, kids⟩ := x
  by_cases hk : 1 ≤ k ∧ k ≤ 11
  · rcases kinds hk.1 hk.2 with rfl | rfl | rfl | rfl | rfl | rfl | rfl | rfl | rfl | rfl | rfl
    · refine (thing_1 wd ht dp sh fo ch nn gs gp gpo gm gmo kids tx w).mono ?_
      rintro e w' ⟨rfl, hb⟩
      exact ⟨⟨_, rfl, .inr ⟨_, _, _, _, _, _, rfl, thg_1 wd ht dp sh fo ch nn gs gp gpo gm gmo kids tx, .inr (nohld_1 wd ht dp sh fo ch nn gs gp gpo gm gmo kids tx)⟩, ask_1 wd ht dp sh fo ch nn gs gp gpo gm gmo kids tx, by simp [thV]⟩, hb⟩
    · refine (thing_2 wd ht dp sh fo ch nn gs gp gpo gm gmo kids tx w).mono ?_
      rintro e w' ⟨rfl, hb⟩
      exact ⟨⟨_, rfl, .inr ⟨_, _, _, _, _, _, rfl, thg_2 wd ht dp sh fo ch nn gs gp gpo gm gmo kids tx, .inr (nohld_2 wd ht dp sh fo ch nn gs gp gpo gm gmo kids tx)⟩, ask_2 wd ht dp sh fo ch nn gs gp gpo gm gmo kids tx, by simp [thV]⟩, hb⟩
    · refine (thing_3 wd ht dp sh fo ch nn gs gp gpo gm gmo kids tx w).mono ?_
      rintro e w' ⟨rfl, hb⟩
      exact ⟨⟨_, rfl, .inr ⟨_, _, _, _, _, _, rfl, thg_3 wd ht dp sh fo ch nn gs gp gpo gm gmo kids tx, .inr (nohld_3 wd ht dp sh fo ch nn gs gp gpo gm gmo kids tx)⟩, ask_3 wd ht dp sh fo ch nn gs gp gpo gm gmo kids tx, by simp [thV]⟩, hb⟩
    · refine (thing_4 wd ht dp sh fo ch nn gs gp gpo gm gmo kids tx w).mono ?_
      rintro e w' ⟨rfl, hb⟩
      exact ⟨⟨_, rfl, .inr ⟨_, _, _, _, _, _, rfl, thg_4 wd ht dp sh fo ch nn gs gp gpo gm gmo kids tx, .inr (nohld_4 wd ht dp sh fo ch nn gs gp gpo gm gmo kids tx)⟩, ask_4 wd ht dp sh fo ch nn gs gp gpo gm gmo kids tx, by simp [thV]⟩, hb⟩
    · refine (thing_5 wd ht dp sh fo ch nn gs gp gpo gm gmo kids tx w).mono ?_
      rintro e w' ⟨rfl, hb⟩
      exact ⟨⟨_, rfl, .inr ⟨_, _, _, _, _, _, rfl, thg_5 wd ht dp sh fo ch nn gs gp gpo gm gmo kids tx, .inr (nohld_5 wd ht dp sh fo ch nn gs gp gpo gm gmo kids tx)⟩, ask_5 wd ht dp sh fo ch nn gs gp gpo gm gmo kids tx, by simp [thV]⟩, hb⟩
    · refine (thing_6 wd ht dp sh fo ch nn gs gp gpo gm gmo kids tx w).mono ?_
      rintro e w' ⟨rfl, hb⟩
      exact ⟨⟨_, rfl, .inr ⟨_, _, _, _, _, _, rfl, thg_6 wd ht dp sh fo ch nn gs gp gpo gm gmo kids tx, .inl ⟨_, hld_6 wd ht dp sh fo ch nn gs gp gpo gm gmo kids tx⟩⟩, ask_6 wd ht dp sh fo ch nn gs gp gpo gm gmo kids tx, by simp [thV]⟩, hb⟩
    · refine (thing_7 wd ht dp sh fo ch nn gs gp gpo gm gmo kids tx w).mono ?_
      rintro e w' ⟨rfl, hb⟩
      exact ⟨⟨_, rfl, .inr ⟨_, _, _, _, _, _, rfl, thg_7 wd ht dp sh fo ch nn gs gp gpo gm gmo kids tx, .inl ⟨_, hld_7 wd ht dp sh fo ch nn gs gp gpo gm gmo kids tx⟩⟩, ask_7 wd ht dp sh fo ch nn gs gp gpo gm gmo kids tx, by simp [thV]⟩, hb⟩
    · refine (thing_8 wd ht dp sh fo ch nn gs gp gpo gm gmo kids tx w).mono ?_
      rintro e w' ⟨rfl, hb⟩
      exact ⟨⟨_, rfl, .inr ⟨_, _, _, _, _, _, rfl, thg_8 wd ht dp sh fo ch nn gs gp gpo gm gmo kids tx, .inr (nohld_8 wd ht dp sh fo ch nn gs gp gpo gm gmo kids tx)⟩, ask_8 wd ht dp sh fo ch nn gs gp gpo gm gmo kids tx, by simp [thV]⟩, hb⟩
    · refine (thing_9 wd ht dp sh fo ch nn gs gp gpo gm gmo kids tx w).mono ?_
      rintro e w' ⟨rfl, hb⟩
      exact ⟨⟨_, rfl, .inr ⟨_, _, _, _, _, _, rfl, thg_9 wd ht dp sh fo ch nn gs gp gpo gm gmo kids tx, .inr (nohld_9 wd ht dp sh fo ch nn gs gp gpo gm gmo kids tx)⟩, ask_9 wd ht dp sh fo ch nn gs gp gpo gm gmo kids tx, by simp [thV]⟩, hb⟩
    · refine (thing_10 wd ht dp sh fo ch nn gs gp gpo gm gmo kids tx w).mono ?_
      rintro e w' ⟨rfl, hb⟩
      exact ⟨⟨_, rfl, .inr ⟨_, _, _, _, _, _, rfl, thg_10 wd ht dp sh fo ch nn gs gp gpo gm gmo kids tx, .inr (nohld_10 wd ht dp sh fo ch nn gs gp gpo gm gmo kids tx)⟩, ask_10 wd ht dp sh fo ch nn gs gp gpo gm gmo kids tx, by simp [thV]⟩, hb⟩
    · refine (thing_11 wd ht dp sh fo ch nn gs gp gpo gm gmo kids tx w).mono ?_
      rintro e w' ⟨rfl, hb⟩
      exact ⟨⟨_, rfl, .inr ⟨_, _, _, _, _, _, rfl, thg_11 wd ht dp sh fo ch nn gs gp gpo gm gmo kids tx, .inl ⟨_, hld_11 wd ht dp sh fo ch nn gs gp gpo gm gmo kids tx⟩⟩, ask_11 wd ht dp sh fo ch nn gs gp gpo gm gmo kids tx, by simp [thV]⟩, hb⟩
  · refine (thing_0 k wd ht dp sh fo ch nn gs gp gpo gm gmo kids tx w hk).mono ?_
    rintro e w' ⟨rfl, hb⟩
    exact ⟨⟨_, rfl, .inl ⟨rfl, bad_kind _ hk⟩, ask_0 _ hk, by unfold thV; rw [if_neg (by simp only; omega), if_neg (by simp only; omega), if_neg (by simp only; omega), if_neg (by simp only; omega), if_neg (by simp only; omega), if_neg (by simp only; omega), if_neg (by simp only; omega), if_neg (by simp only; omega), if_neg (by simp only; omega), if_neg (by simp only; omega), if_neg (by simp only; omega)]⟩, hb⟩
end Go.Proofs.Ytbbehmcekbnkiaa
namespace Go.Proofs.Ytbbehmcekbnkiaa
open Go.RowKit Go.Shelf
set_option linter.unusedVariables false
set_option linter.unusedSimpArgs false
attribute [local go_sem] Oper.semAt_some

/-- Where items begin, from place i on. -/
def starts (xs : List Nd) : Nat → Nat → List Nat
  | 0, _ => []
  | f + 1, i => if i < xs.length then i :: starts xs f (i + 1 + (xs.getD i Nd.none).kids.toNat) else []
def kin (y x : Nd) : Prop := y = x ∧ y.kids = x.kids
/-- The list lies there still. -/
structure Src (xs : List Nd) (ao : Option Addr) (Bs b off cap : Nat) (W : World) : Prop where
  box : W.cell? ⟨Bs, 0, none⟩ = some (.slice ao xs.length cap)
  some_ : 0 < xs.length → ao = some ⟨b, off, none⟩
  at_ : ∀ i, i < xs.length → ∃ y : Nd, kin y (xs.getD i Nd.none) ∧ ∀ j, j < 15 → W.cell? ⟨b, off + i * 15 + j, none⟩ = y.cells[j]?
theorem Src.grown {xs : List Nd} {ao : Option Addr} {Bs b off cap : Nat} {W W' : World} (h : Src xs ao Bs b off cap W) (hb : Below W.heap.size W W') : Src xs ao Bs b off cap W' := by
  refine ⟨(hb.cell (p := ⟨Bs, 0, none⟩) (World.block_lt_of_cell? W _ h.box)).trans h.box, h.some_, fun i hi => ?_⟩
  obtain ⟨y, hk, hc⟩ := h.at_ i hi
  refine ⟨y, hk, fun j hj => ?_⟩
  have h1 := hc j hj
  rw [List.getElem?_eq_getElem (show j < y.cells.length by exact hj)] at h1 ⊢
  exact (hb.cell (p := ⟨b, off + i * 15 + j, none⟩) (World.block_lt_of_cell? W _ h1)).trans h1

/-- What comes: where an item begins, and the thing that its node is. -/
def Item (xs : List Nd) : Type := { p : Nat × Value // p.1 < xs.length ∧ ∃ y : Nd, kin y (xs.getD p.1 Nd.none) ∧ ThingQ y p.2 }
def Item.encs {xs : List Nd} (x : Item xs) : Array Value := #[.int .i64 (x.1.1 : Int), x.1.2]

set_option maxRecDepth 100000 in
set_option maxHeartbeats 4000000 in
theorem each1_in (n l : Nat) (hn : 1 ≤ n) (xs : List Nd) (ao : Option Addr) (Bs b off cap : Nat) (hlen : xs.length ≤ 20000) (hkids : ∀ i, i < xs.length → 0 ≤ (xs.getD i Nd.none).kids ∧ (xs.getD i Nd.none).kids ≤ 20000) (J Jx : List (Item xs) → World → Prop) (W : World) (hJ : AbidesFrom W.heap.size J) (hS : Src xs ao Bs b off cap W)
    (hY : ∀ pre x W1, J pre W1 → pre.length < xs.length + 1 → YieldAt Fence.wide (n - 1) Try.prog l (Item.encs x) W1 fun e W' =>
      (e = .returned (.bool true) ∧ J (pre ++ [x]) W' ∧ (Src xs ao Bs b off cap W1 → Src xs ao Bs b off cap W')) ∨ (e = .returned (.bool false) ∧ Jx (pre ++ [x]) W')) (h0 : J [] W) :
    CallsIn Fence.wide n Try.prog 18 #[.func (.yield l) #[] #[], .pointer (some ⟨Bs, 0, none⟩)] W fun e W' => (∃ v, e = .returned v) ∧
      ((∃ ys : List (Item xs), ys.map (·.1.1) = starts xs (xs.length + 1) 0 ∧ J ys W') ∨ (∃ pre, True ∧ Jx pre W')) := by
  refine callsIn_of_wp Try.func18 rfl trivial ?_ rfl
  simp only [Try.ntmps18, List.size_toArray, List.length_cons, List.length_nil, Nat.reduceAdd, Nat.reduceSub, Array.replicate_succ, Array.replicate_zero, List.push_toArray, List.append_toArray, List.nil_append, List.cons_append]
  gi_wp2
  gi_loopw [3] (fun a wr => ∃ (i f : Nat) (pre : List (Item xs)), a = .int .i64 (i : Int) ∧ i ≤ 40001 ∧ xs.length < i + f ∧ Hid (pre.map (·.1.1) ++ starts xs f i = starts xs (xs.length + 1) 0) ∧ pre.length ≤ i ∧ J pre wr ∧ Hid (Src xs ao Bs b off cap wr)) (fun a _ => xs.length - (intOf a).toNat)
  case atStart => exact ⟨0, xs.length + 1, [], rfl, by omega, by omega, rfl, by simp, h0, hS⟩
  case round =>
    obtain ⟨i, f, pre, rfl, hi, hf, HP, hpl, hJs, HS⟩ := hrel
    have hbox := HS.out.box
    by_cases hil : i < xs.length
    · have hii : (i : Int) < (xs.length : Int) := by omega
      obtain rfl := HS.out.some_ (by omega)
      obtain ⟨y, hy, hyc⟩ := HS.out.at_ i hil
      have TC : Hid (∀ w : World, Calls Try.prog 13 #[ndV y] w fun r w' => (∃ v, r = .returned v ∧ ThingQ y v) ∧ Below w.heap.size w w') := hideP (fun w => thing_q y w)
      have HY := hideP hy
      have hkk := hkids i hil
      rw [← hy.2] at hkk
      obtain ⟨y0, hy0⟩ : ∃ y0, y0 = y := ⟨_, rfl⟩
      rw [← hy0] at HY
      have HY0 := hideP hy0
      obtain ⟨kd, wd, hh, dp, sh, fo, ch, nn, gs, gp, gpo, gm, gmo, tx, kids⟩ := y
      simp only [Nd.cells] at hyc
      have c0 : wr.cell? ⟨b, off + i * 15, none⟩ = some (.int .i64 kd) := hyc 0 (by omega)
      have c1 : wr.cell? ⟨b, off + i * 15 + 1, none⟩ = some (.int .i64 wd) := hyc 1 (by omega)
      have c2 : wr.cell? ⟨b, off + i * 15 + 2, none⟩ = some (.int .i64 hh) := hyc 2 (by omega)
      have c3 : wr.cell? ⟨b, off + i * 15 + 3, none⟩ = some (.int .i64 dp) := hyc 3 (by omega)
      have c4 : wr.cell? ⟨b, off + i * 15 + 4, none⟩ = some (.int .i64 sh) := hyc 4 (by omega)
      have c5 : wr.cell? ⟨b, off + i * 15 + 5, none⟩ = some (.int .i64 fo) := hyc 5 (by omega)
      have c6 : wr.cell? ⟨b, off + i * 15 + 6, none⟩ = some (.int .i64 ch) := hyc 6 (by omega)
      have c7 : wr.cell? ⟨b, off + i * 15 + 7, none⟩ = some (.int .i64 nn) := hyc 7 (by omega)
      have c8 : wr.cell? ⟨b, off + i * 15 + 8, none⟩ = some (.int .i64 gs) := hyc 8 (by omega)
      have c9 : wr.cell? ⟨b, off + i * 15 + 9, none⟩ = some (.int .i64 gp) := hyc 9 (by omega)
      have c10 : wr.cell? ⟨b, off + i * 15 + 10, none⟩ = some (.int .i64 gpo) := hyc 10 (by omega)
      have c11 : wr.cell? ⟨b, off + i * 15 + 11, none⟩ = some (.int .i64 gm) := hyc 11 (by omega)
      have c12 : wr.cell? ⟨b, off + i * 15 + 12, none⟩ = some (.int .i64 gmo) := hyc 12 (by omega)
      have c13 : wr.cell? ⟨b, off + i * 15 + 13, none⟩ = some (.string tx) := hyc 13 (by omega)
      have c14 : wr.cell? ⟨b, off + i * 15 + 14, none⟩ = some (.int .i64 kids) := hyc 14 (by omega)
      have HJ := hideP hJs
      dsimp only at hkk
      obtain ⟨hk0, hk1⟩ := hkk
      obtain ⟨f, rfl⟩ : ∃ q, f = q + 1 := ⟨f - 1, by omega⟩
      have HST : Hid (pre.map (·.1.1) ++ i :: starts xs f (i + 1 + kids.toNat) = starts xs (xs.length + 1) 0) := hideP (by
        have h := HP.out
        rw [show starts xs (f + 1) i = i :: starts xs f (i + 1 + (xs.getD i Nd.none).kids.toNat) by simp only [starts]; rw [if_pos hil]] at h
        rw [← HY.out.2, HY0.out] at h
        exact h)
      clear hyc hJs hy hy0
      gi_wp2_with fail
      refine ⟨trivial, CallsIn.mono (callsIn_wide.2 (TC.out wr)) ?_⟩
      rintro e w1 ⟨⟨v, rfl, hth⟩, hb1⟩
      have hJ1 : J pre w1 := hJ pre wr w1 none HJ.out ⟨hb1.os, hb1.tape, hb1.output, hb1.size, fun k hk _ => hb1.block k hk⟩ (fun r e => by cases e)
      have HS1 := hideP (HS.out.grown hb1)
      rw [← HY0.out] at hth
      obtain ⟨x, hx⟩ : ∃ x : Item xs, x = ⟨(i, v), hil, y0, HY.out, hth⟩ := ⟨_, rfl⟩
      obtain ⟨fn, tmps, assign, body, hyl, hR⟩ := hY pre x w1 hJ1 (by omega)
      have HX : Hid (x.1.1 = i) := hideP (by rw [hx])
      rw [show Item.encs x = #[.int .i64 (i : Int), v] by rw [hx]; rfl] at hyl
      clear hb1 hJ1 hth hbox hx c0 c1 c2 c3 c4 c5 c6 c7 c8 c9 c10 c11 c12 c13 c14
      have HRR := hideP hR
      clear hR
      gi_wp2_with fail
      refine HRR.out.mono ?_
      rintro e W3 (⟨rfl, hJ3, hk3⟩ | ⟨rfl, hJx3⟩)
      · have HS3 := hideP (hk3 HS1.out)
        have hbox3 := HS3.out.box
        obtain ⟨y3, hy3, hc3⟩ := HS3.out.at_ i hil
        have c14 : W3.cell? ⟨b, off + i * 15 + 14, none⟩ = some (.int .i64 kids) := by
          rw [hc3 14 (by omega), show y3.cells[14]? = some (.int .i64 y3.kids) from rfl, hy3.2, ← HY.out.2, HY0.out]
        have HJ3 := hideP hJ3
        clear hJ3 hk3 hc3 hy3
        gi_wp2_with fail
        go_roundw
        case rel =>
          refine ⟨i + 1 + kids.toNat, f, pre ++ [x], congrArg _ (by omega), by omega, by omega, hideP ?_, by simp; omega, HJ3.out, HS3⟩
          rw [List.map_append, List.append_assoc, List.map_singleton, HX.out]
          exact HST.out
        case measure => simp [intOf]; omega
      · gi_wp2
        refine bodyPost_ret (results_none rfl _ _ _) rfl ?_
        exact ⟨⟨_, rfl⟩, .inr ⟨pre ++ [x], trivial, hJx3⟩⟩
    · have hii : ¬ (i : Int) < (xs.length : Int) := by omega
      have HE : Hid (pre.map (·.1.1) = starts xs (xs.length + 1) 0) := hideP (by
        have h := HP.out
        cases f with
        | zero => simpa [starts] using h
        | succ f =>
          rw [show starts xs (f + 1) i = [] by simp only [starts]; rw [if_neg hil]] at h
          simpa using h)
      gi_wp2
      go_end0
      exact ⟨⟨_, rfl⟩, .inl ⟨pre, HE.out, hJs⟩⟩

set_option maxHeartbeats 1000000 in
/-- The iterator's maker: the list is put into a box of its own. -/
theorem eachItem_any (a : Option Addr) (len cap : Nat) (w : World) :
    Calls Try.prog 11 #[.slice a len cap] w fun e w' => e = .returned (.func (.func 18) #[] #[.pointer (some ⟨w.heap.size, 0, none⟩)]) ∧ w' = w.alloc (.cells #[.slice a len cap] 24) := by
  go_enter Try.func11, Try.ntmps11
  go_wp2
  go_ret
  exact ⟨rfl, rfl⟩

/-- What the iterator hands its loop: each item once, in order; the body must leave kinds and Kids as they are. -/
theorem each_stops (n : Nat) (hn : 1 ≤ n) (xs : List Nd) (ao : Option Addr) (Bs b off cap : Nat) (hlen : xs.length ≤ 20000) (hkids : ∀ i, i < xs.length → 0 ≤ (xs.getD i Nd.none).kids ∧ (xs.getD i Nd.none).kids ≤ 20000) (w : World) (hS : Src xs ao Bs b off cap w) :
    SeqStopsK Fence.wide n Try.prog 18 #[.pointer (some ⟨Bs, 0, none⟩)] (Item.encs (xs := xs)) (fun A B => Src xs ao Bs b off cap A → Src xs ao Bs b off cap B) (fun ys => ys.map (·.1.1) = starts xs (xs.length + 1) 0) (fun _ => True) (xs.length + 1) w := fun l J Jx W hW hJ _ hY h0 => by
  refine (each1_in n l hn xs ao Bs b off cap hlen hkids J Jx W hJ (hS.grown hW) hY h0).mono ?_
  rintro e W' ⟨he, ⟨ys, hys, hj⟩ | ⟨pre, _, hj⟩⟩
  · exact ⟨he, .inl ⟨ys, hys, hj⟩⟩
  · exact ⟨he, .inr ⟨pre, trivial, hj⟩⟩
end Go.Proofs.Ytbbehmcekbnkiaa
