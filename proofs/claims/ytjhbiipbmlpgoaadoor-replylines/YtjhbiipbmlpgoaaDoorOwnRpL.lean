/- THE CARD OF ReplyLines: for all replies, what was written has a first line with its status, then a line for each field that is read as that field, then how long its body is, an empty line, and just that body; no argument turns; the tables of math/bits, internal/strconv and unicode/utf8 start as the text of the program lays them. -/
import Derived.Test.YtjhbiipbmlpgoaaDoorCards
import Derived.Test.YtjhbiipbmlpgoaaDoorTie
import Derived.Test.YtjhbiipbmlpgoaaDoorPk16
import Derived.Test.YtjhbiipbmlpgoaaDoorPk8
import Derived.Test.YtjhbiipbmlpgoaaDoorRowKitTU
import Derived.ProofKit
import Derived.OpenShut
import Derived.Deep.DeepHandedRow
import Derived.Lib.LaidTab
namespace Go.Proofs.YtjhbiipbmlpgoaaDoor.replyLines
open Go.ChangeShapes Go.WideShapes Go.ChangeAt Go.RowKit

theorem own : ownKnob Tryd.prog.godebug = none := by kernel_rfl

set_option maxRecDepth 100000 in
/-- What the walk gives, for every argument. -/
theorem contract (H : Type) (enc : TypeId × Value → H) (W : World) (base : Nat) (args : Array Value) (ds gs : List (DataW H)) (before : List MemPlace)
    (hval : ∀ (j : Nat) t v, Tryd.f4.params[j]? = some t → args[j]? = some v → Value.okWide Tryd.prog W .any base t v)
    (hW : DataW.Whole enc Tryd.prog Tryd.f4.params.toList Rows.replyLinesSpec.vars false W args.toList ds gs before)
    (hwt : (DataW.weightsEach Tryd.prog (Tryd.f4.params.toList ++ (OpenSpec.ofChange Rows.replyLinesSpec).bare.plain.varTypes Tryd.prog) (ds ++ gs)).all (· ≤ reachBytes) = true)
    (hLd : laidMetH Tryd.prog Rows.replyLinesRow.laid W) :
    Calls Tryd.prog 4 args W fun e W' => ∃ v, e = .returned v ∧ Rows.replyLinesSpec.post enc Tryd.prog Tryd.f4 false true false false W args v W' := by
  have hW' := hW
  obtain ⟨p, q, hA0, hV, rfl, hfz, hnd⟩ := hW
  have hA : DataW.TrodAll enc Tryd.prog W 0 (fun _ => true) true Tryd.f4.params.toList args.toList ds p := hA0
  have hvt : (OpenSpec.ofChange Rows.replyLinesSpec).bare.plain.varTypes Tryd.prog = [] := by kernel_rfl
  rw [hvt, List.append_nil] at hwt
  rw [Tryd.params4] at hA hval hwt
  obtain ⟨v0, vs0, d0, ds0, p0, q0, hargs, rfl, rfl, h0, r0⟩ := trodAll_cons hA
  obtain ⟨rfl, rfl, rfl⟩ := trodAll_nil r0
  obtain rfl : args = #[v0] := by cases args; simp_all
  obtain ⟨rfl, rfl⟩ := trodVars_none hV
  have hLt := light_all hwt
  obtain ⟨L0, _⟩ := light_first hLt
  have h0k := h0
  obtain ⟨f0, hf0⟩ := h0
  obtain ⟨c0, rfl, _⟩ := okWide_struct Tryd.underlying25 (hval 0 25 v0 rfl rfl)
  obtain ⟨st0, fo0, bo0, fc0, bc0, fl0, body0, e0, hF0, hB0, z0⟩ := open_reply (s := 9) (i := 3) (u := 22) (e := 36) (b := 23) (u8 := 5) Tryd.underlying25 rfl rfl rfl rfl rfl rfl Tryd.underlying22 Tryd.underlying36 rfl rfl rfl rfl Tryd.underlying9 Tryd.underlying3 Tryd.underlying23 Tryd.underlying5 (by kernel_rfl) (by kernel_rfl) (by kernel_rfl) (by kernel_rfl) (by kernel_rfl) (by kernel_rfl) (by kernel_rfl) hf0 L0
  obtain rfl : c0 = #[.int .i64 st0, .slice fo0 fl0.length fc0, .slice bo0 body0.length bc0] := by
    cases c0; simpa [Value.cells] using e0
  have hPw : PowAt W := pow_of_laid hLd
  clear hA0
  simp only [List.append_nil] at hW'
  have hlt : ∀ x ∈ p0, x.block < W.heap.size := fun x hx => by simpa using hW'.lt x (by simpa using hx)
  have hr : reachBytes = 140737488351232 := rfl
  rw [hr] at z0
  have walk : Calls Tryd.prog 4 #[.agg #[.int .i64 st0, .slice fo0 fl0.length fc0, .slice bo0 body0.length bc0]] W fun e w' => e = .returned (.bool true) ∧ Below W.heap.size W w' :=
    replyLines_any W st0 fl0 fo0 bo0 fc0 bc0 fl0.length body0.length body0 hF0 rfl (fun p hp => by have := z0 p hp; unfold maxLen; omega) rfl hB0 hPw
  refine walk.mono fun e W' ⟨he, hg⟩ => ?_
  subst he
  refine ⟨_, rfl, _, _, _, [], _, [], hW', trodAll_cons_mk (shut_bool Tryd.underlying4 _) trodAll_mk0, (trodAll_cons_mk (Below.trod laid_out (by kernel_rfl) (of_decide_eq_true (by kernel_rfl)) h0k hg (fun x hx => hlt x (by simp [hx]))) trodAll_mk0), rfl, hg.frame _, fun h => by cases h⟩

/-- A world for the witness: the settled one, the five tables holding what the row lists. -/
theorem laidWorld (os : Os) (H : Type) (enc : TypeId × Value → H) : ∃ w0 : World, w0.os = os ∧
    (w0.forCall (fun _ _ => 0) ⟨#[], #[.agg #[.int .i64 0, .slice none 0 0, .slice none 0 0]], []⟩).variablesB Tryd.checked.prog = true ∧
    ((w0.forCall (fun _ _ => 0) ⟨#[], #[.agg #[.int .i64 0, .slice none 0 0, .slice none 0 0]], []⟩).heap.toList.drop Tryd.checked.prog.globals.size).take ((begin Tryd.checked.prog (fun _ _ => 0) default).world.heap.size - Tryd.checked.prog.globals.size) =
      (begin Tryd.checked.prog (fun _ _ => 0) default).world.heap.toList.drop Tryd.checked.prog.globals.size ∧
    Input.okWideB Tryd.checked.prog (w0.forCall (fun _ _ => 0) ⟨#[], #[.agg #[.int .i64 0, .slice none 0 0, .slice none 0 0]], []⟩) 4 ⟨#[], #[.agg #[.int .i64 0, .slice none 0 0, .slice none 0 0]], []⟩ = true ∧
    laidMet Tryd.prog Rows.replyLinesRow.laid (w0.forCall (fun _ _ => 0) ⟨#[], #[.agg #[.int .i64 0, .slice none 0 0, .slice none 0 0]], []⟩).memory ∧
    ∃ places, DataW.whole enc Tryd.prog (w0.forCall (fun _ _ => 0) ⟨#[], #[.agg #[.int .i64 0, .slice none 0 0, .slice none 0 0]], []⟩).memory Tryd.f4.params.toList Rows.replyLinesSpec.vars false #[Value.agg #[.int .i64 0, .slice none 0 0, .slice none 0 0]].toList 8 = some ([.agg [.lit (.int .i64 0), .nil, .nil]], [], places) :=
  ⟨{ World.holding Tryd.prog os ⟨#[], #[], []⟩ with heap := laidHeap (World.holding Tryd.prog os ⟨#[], #[], []⟩).heap }, rfl, by kernel_rfl, by kernel_rfl, by kernel_rfl, laidMet_of_run' 8 (by kernel_rfl) (by kernel_rfl), [], by kernel_rfl⟩

set_option maxRecDepth 100000 in
theorem lifted (os : Os) (started : os.Started) (H : Type) (enc : TypeId × Value → H) (F : Stop.Interp) :
    ReturnsInHanded {} Tryd.checked os 4 .any ((OpenSpec.ofChange Rows.replyLinesSpec).preRow enc Tryd.prog Tryd.f4 Rows.replyLinesRow.domain false Rows.replyLinesRow.laid) (((OpenSpec.ofChange Rows.replyLinesSpec).at F).post enc Tryd.prog Tryd.f4 false true false false) := by
  obtain ⟨w0, hos, hv, hr, hok, hl, places, hx⟩ := laidWorld os H enc
  refine returnsInHanded_of_row (C := Tryd.checked) (s := OpenSpec.ofChange Rows.replyLinesSpec) own started (by kernel_rfl) Tryd.func4
    (witness_row_at (enc := enc) (C := Tryd.checked) false w0 #[.agg #[.int .i64 0, .slice none 0 0, .slice none 0 0]] hos hv hr hok
      (OpenSpec.preRow_of_cond 8 hx (by kernel_rfl) (fun k hk => by cases hk) (by kernel_rfl) hl)) ?_
  intro W base args ds gs before hval hW _ _ hwt hLd _ _
  exact contract H enc W base args ds gs before hval hW hwt hLd

theorem said : Rows.ReplyLinesSaid :=
  OpenClaim.holds_of_cond 4 Tryd.f4 rfl rfl rfl rfl rfl rfl rfl ⟨rfl, rfl, rfl, rfl, rfl⟩ rfl rfl rfl rfl rfl (by kernel_rfl) Tryd.func4 (by kernel_rfl)
    (of_decide_eq_true (by kernel_rfl)) (by unfold Func.isWrapper; first | (rw [if_pos (by decide +kernel)]; kernel_rfl) | (rw [if_neg (by decide +kernel)]; exact ⟨rfl, rfl⟩))
    (fun os started H enc _ F => by rw [OpenClaim.pre_eq_preRow]; exact lifted os started H enc F)

theorem plain (f : FuncId) (fn : Func) (hf : Tryd.pinned.checked.prog.funcNamed "lighterage/lighteragelaw.ReplyLines" = some f) (hfn : Tryd.pinned.checked.prog.funcs[f]? = some fn) :
    false = Tryd.pinned.checked.prog.looks [] ∧ ∀ (j : Nat) t, fn.params[j]? = some t → Tryd.pinned.checked.prog.wantsStandIn t = false := by
  obtain rfl : f = 4 := Option.some.inj ((show Tryd.prog.funcNamed "lighterage/lighteragelaw.ReplyLines" = some 4 by kernel_rfl).symm.trans hf) |>.symm
  obtain rfl : fn = Tryd.f4 := (Option.some.inj (Tryd.func4.symm.trans hfn)).symm
  refine ⟨by kernel_rfl, fun j t ht => ?_⟩
  rw [Tryd.params4] at ht
  have ht' := Array.mem_of_getElem? ht
  simp only [List.mem_toArray, List.mem_cons, List.mem_nil_iff, or_false] at ht'
  subst ht'
  exact (show Tryd.prog.wantsStandIn 25 = false by kernel_rfl)

end Go.Proofs.YtjhbiipbmlpgoaaDoor.replyLines

namespace Go.Proofs.YtjhbiipbmlpgoaaDoor
open Go

/-- THE CARD. -/
theorem replyLines_card : Rows.ReplyLinesCardSaid :=
  Claim7.holds_tied_plain_at .later [] _ _ _ _ replyLines.said (fun _ h => by cases h) (by kernel_rfl) (fun _ h => by cases h) replyLines_row_tie rfl ⟨rfl, rfl⟩ (by kernel_rfl) rfl replyLines.plain (by kernel_rfl)
end Go.Proofs.YtjhbiipbmlpgoaaDoor
