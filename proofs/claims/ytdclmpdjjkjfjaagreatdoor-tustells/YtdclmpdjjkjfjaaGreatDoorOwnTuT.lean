/- THE CARD OF TusTells: for all requests and numbers, how many bytes a reply tells of an upload it has, and just the bytes that came in for it, in their order, whatever was lost; no argument turns; the tables of math/bits, internal/strconv and unicode/utf8 start as the text of the program lays them. -/
import Derived.Test.YtdclmpdjjkjfjaaGreatDoorCards
import Derived.Test.YtdclmpdjjkjfjaaGreatDoorTie
import Derived.Test.YtdclmpdjjkjfjaaGreatDoorTuLawT
import Derived.Test.YtdclmpdjjkjfjaaGreatDoorTuBg
import Derived.Test.YtdclmpdjjkjfjaaGreatDoorPk26
import Derived.Test.YtdclmpdjjkjfjaaGreatDoorPk10
import Derived.Test.YtdclmpdjjkjfjaaGreatDoorRowKitTU
import Derived.ProofKit
import Derived.OpenShut
import Derived.Deep.DeepHandedRow
import Derived.Lib.LaidTab
namespace Go.Proofs.YtdclmpdjjkjfjaaGreatDoor.tusTells
open Go.ChangeShapes Go.WideShapes Go.ChangeAt Go.RowKit

theorem own : ownKnob Tryz.prog.godebug = none := by kernel_rfl

set_option maxRecDepth 100000 in
/-- What the walk gives, for every argument. -/
theorem contract (H : Type) (enc : TypeId × Value → H) (W : World) (base : Nat) (args : Array Value) (ds gs : List (DataW H)) (before : List MemPlace)
    (hval : ∀ (j : Nat) t v, Tryz.f5.params[j]? = some t → args[j]? = some v → Value.okWide Tryz.prog W .any base t v)
    (hW : DataW.Whole enc Tryz.prog Tryz.f5.params.toList Rows.tusTellsSpec.vars false W args.toList ds gs before)
    (hwt : (DataW.weightsEach Tryz.prog (Tryz.f5.params.toList ++ (OpenSpec.ofChange Rows.tusTellsSpec).bare.plain.varTypes Tryz.prog) (ds ++ gs)).all (· ≤ reachBytes) = true)
    (hLd : laidMetH Tryz.prog Rows.tusTellsRow.laid W) :
    Calls Tryz.prog 5 args W fun e W' => ∃ v, e = .returned v ∧ Rows.tusTellsSpec.post enc Tryz.prog Tryz.f5 false true false false W args v W' := by
  have hW' := hW
  obtain ⟨p, q, hA0, hV, rfl, hfz, hnd⟩ := hW
  have hA : DataW.TrodAll enc Tryz.prog W 0 (fun _ => true) true Tryz.f5.params.toList args.toList ds p := hA0
  have hvt : (OpenSpec.ofChange Rows.tusTellsSpec).bare.plain.varTypes Tryz.prog = [] := by kernel_rfl
  rw [hvt, List.append_nil] at hwt
  rw [Tryz.params5] at hA hval hwt
  obtain ⟨v0, vs0, d0, ds0, p0, q0, hargs, rfl, rfl, h0, r0⟩ := trodAll_cons hA
  obtain ⟨v1, vs1, d1, ds1, p1, q1, rfl, rfl, rfl, h1, r1⟩ := trodAll_cons r0
  obtain ⟨rfl, rfl, rfl⟩ := trodAll_nil r1
  obtain rfl : args = #[v0, v1] := by cases args; simp_all
  obtain ⟨rfl, rfl⟩ := trodVars_none hV
  have hLt := light_all hwt
  obtain ⟨L0, hL0⟩ := light_first hLt
  obtain ⟨L1, _⟩ := light_first hL0
  have h0k := h0
  obtain ⟨f0, hf0⟩ := h0
  obtain ⟨a0, la0, ca0, rfl⟩ := okWide_slice Tryz.underlying22 (hval 0 22 v0 rfl rfl)
  have hT0 : AskT Tryz.prog 22 37 35 29 58 9 3 30 5 := ⟨Tryz.underlying22, ⟨_, _, Tryz.underlying37, rfl, rfl, rfl, rfl⟩, ⟨_, _, _, _, _, Tryz.underlying35, rfl, rfl, rfl, rfl, rfl, rfl, rfl, rfl, rfl, rfl⟩, Tryz.underlying29, ⟨_, _, Tryz.underlying58, rfl, rfl, rfl, rfl⟩, Tryz.underlying9, Tryz.underlying3, Tryz.underlying30, Tryz.underlying5, by kernel_rfl, by kernel_rfl, by kernel_rfl, by kernel_rfl, by kernel_rfl, by kernel_rfl, by kernel_rfl, by kernel_rfl, by kernel_rfl⟩
  obtain ⟨l0, hll0, hl0, z0⟩ := open_asks hT0 hf0 L0
  have hlb0 := pairs_many Tryz.underlying22 (k := 96) (by kernel_rfl) hf0 L0
  have h1k := h1
  obtain ⟨f1, hf1⟩ := h1
  obtain ⟨i1, e1, _, _⟩ := DataW.trod_int Tryz.underlying3 hf1
  obtain rfl : v1 = .int .i64 i1 := by
    obtain ⟨i', rfl⟩ := okWide_int Tryz.underlying3 (hval 1 3 v1 rfl rfl)
    simpa [Value.cells] using e1
  have hPw : PowAt W := pow_of_laid hLd
  clear hA0
  simp only [List.append_nil] at hW'
  have hlt : ∀ x ∈ p0 ++ p1, x.block < W.heap.size := fun x hx => by simpa using hW'.lt x (by simpa using hx)
  have hr : reachBytes = 140737488351232 := rfl
  rw [hr] at hlb0
  have walk : Calls Tryz.prog 5 #[.slice a0 la0 ca0, .int .i64 i1] W fun e w' => e = .returned (.bool true) ∧ Below W.heap.size W w' :=
    tusTells_any l0 a0 ca0 la0 i1 W hl0 hll0 (fun q hq => ⟨by have h := z0 q hq; have h1 := h.m; have h2 := h.t; have h3 := h.body; rw [hr] at h1 h2 h3; unfold aqz; omega, fun p hp => by have h := (z0 q hq).fl p hp; rw [hr] at h; unfold maxLen; omega⟩) (by omega) (fun {W'} hb => tusBegun_any W' (@DoIs.from_ W W' (@doIs W hPw) hb) (@oursIs W')) (@doIs W hPw)
  refine walk.mono fun e W' ⟨he, hg⟩ => ?_
  subst he
  refine ⟨_, rfl, _, _, _, [], _, [], hW', trodAll_cons_mk (shut_bool Tryz.underlying4 _) trodAll_mk0, (trodAll_cons_mk (Below.trod laid_out (by kernel_rfl) (of_decide_eq_true (by kernel_rfl)) h0k hg (fun x hx => hlt x (by simp [hx]))) (trodAll_cons_mk (Below.trod laid_out (by kernel_rfl) (of_decide_eq_true (by kernel_rfl)) h1k hg (fun x hx => hlt x (by simp [hx]))) trodAll_mk0)), rfl, hg.frame _, fun h => by cases h⟩

/-- A world for the witness: the settled one, the five tables holding what the row lists. -/
theorem laidWorld (os : Os) (H : Type) (enc : TypeId × Value → H) : ∃ w0 : World, w0.os = os ∧
    (w0.forCall (fun _ _ => 0) ⟨#[], #[.slice none 0 0, .int .i64 0], []⟩).variablesB Tryz.checked.prog = true ∧
    ((w0.forCall (fun _ _ => 0) ⟨#[], #[.slice none 0 0, .int .i64 0], []⟩).heap.toList.drop Tryz.checked.prog.globals.size).take ((begin Tryz.checked.prog (fun _ _ => 0) default).world.heap.size - Tryz.checked.prog.globals.size) =
      (begin Tryz.checked.prog (fun _ _ => 0) default).world.heap.toList.drop Tryz.checked.prog.globals.size ∧
    Input.okWideB Tryz.checked.prog (w0.forCall (fun _ _ => 0) ⟨#[], #[.slice none 0 0, .int .i64 0], []⟩) 5 ⟨#[], #[.slice none 0 0, .int .i64 0], []⟩ = true ∧
    laidMet Tryz.prog Rows.tusTellsRow.laid (w0.forCall (fun _ _ => 0) ⟨#[], #[.slice none 0 0, .int .i64 0], []⟩).memory ∧
    ∃ places, DataW.whole enc Tryz.prog (w0.forCall (fun _ _ => 0) ⟨#[], #[.slice none 0 0, .int .i64 0], []⟩).memory Tryz.f5.params.toList Rows.tusTellsSpec.vars false #[Value.slice none 0 0, Value.int .i64 0].toList 8 = some ([.nil, .lit (.int .i64 0)], [], places) :=
  ⟨{ World.holding Tryz.prog os ⟨#[], #[], []⟩ with heap := laidHeap (World.holding Tryz.prog os ⟨#[], #[], []⟩).heap }, rfl, by kernel_rfl, by kernel_rfl, by kernel_rfl, laidMet_of_run' 8 (by kernel_rfl) (by kernel_rfl), [], by kernel_rfl⟩

set_option maxRecDepth 100000 in
theorem lifted (os : Os) (started : os.Started) (H : Type) (enc : TypeId × Value → H) (F : Stop.Interp) :
    ReturnsInHanded {} Tryz.checked os 5 .any ((OpenSpec.ofChange Rows.tusTellsSpec).preRow enc Tryz.prog Tryz.f5 Rows.tusTellsRow.domain false Rows.tusTellsRow.laid) (((OpenSpec.ofChange Rows.tusTellsSpec).at F).post enc Tryz.prog Tryz.f5 false true false false) := by
  obtain ⟨w0, hos, hv, hr, hok, hl, places, hx⟩ := laidWorld os H enc
  refine returnsInHanded_of_row (C := Tryz.checked) (s := OpenSpec.ofChange Rows.tusTellsSpec) own started (by kernel_rfl) Tryz.func5
    (witness_row_at (enc := enc) (C := Tryz.checked) false w0 #[.slice none 0 0, .int .i64 0] hos hv hr hok
      (OpenSpec.preRow_of_cond 8 hx (by kernel_rfl) (fun k hk => by cases hk) (by kernel_rfl) hl)) ?_
  intro W base args ds gs before hval hW _ _ hwt hLd _ _
  exact contract H enc W base args ds gs before hval hW hwt hLd

theorem said : Rows.TusTellsSaid :=
  OpenClaim.holds_of_cond 5 Tryz.f5 rfl rfl rfl rfl rfl rfl rfl ⟨rfl, rfl, rfl, rfl, rfl⟩ rfl rfl rfl rfl rfl (by kernel_rfl) Tryz.func5 (by kernel_rfl)
    (of_decide_eq_true (by kernel_rfl)) (by unfold Func.isWrapper; first | (rw [if_pos (by decide +kernel)]; kernel_rfl) | (rw [if_neg (by decide +kernel)]; exact ⟨rfl, rfl⟩))
    (fun os started H enc _ F => by rw [OpenClaim.pre_eq_preRow]; exact lifted os started H enc F)

theorem plain (f : FuncId) (fn : Func) (hf : Tryz.pinned.checked.prog.funcNamed "lighterage/lighteragelaw.TusTells" = some f) (hfn : Tryz.pinned.checked.prog.funcs[f]? = some fn) :
    true = Tryz.pinned.checked.prog.looks [] ∧ ∀ (j : Nat) t, fn.params[j]? = some t → Tryz.pinned.checked.prog.wantsStandIn t = false := by
  obtain rfl : f = 5 := Option.some.inj ((show Tryz.prog.funcNamed "lighterage/lighteragelaw.TusTells" = some 5 by kernel_rfl).symm.trans hf) |>.symm
  obtain rfl : fn = Tryz.f5 := (Option.some.inj (Tryz.func5.symm.trans hfn)).symm
  refine ⟨by kernel_rfl, fun j t ht => ?_⟩
  rw [Tryz.params5] at ht
  have ht' := Array.mem_of_getElem? ht
  simp only [List.mem_toArray, List.mem_cons, List.mem_nil_iff, or_false] at ht'
  rcases ht' with rfl | rfl
  · exact (show Tryz.prog.wantsStandIn 22 = false by kernel_rfl)
  · exact (show Tryz.prog.wantsStandIn 3 = false by kernel_rfl)

end Go.Proofs.YtdclmpdjjkjfjaaGreatDoor.tusTells

namespace Go.Proofs.YtdclmpdjjkjfjaaGreatDoor
open Go

/-- THE CARD. -/
theorem tusTells_card : Rows.TusTellsCardSaid :=
  Claim7.holds_tied_plain_at .later [] _ _ _ _ tusTells.said (fun _ h => by cases h) (by kernel_rfl) (fun _ h => by cases h) tusTells_row_tie rfl ⟨rfl, rfl⟩ (by kernel_rfl) rfl tusTells.plain (by kernel_rfl)
end Go.Proofs.YtdclmpdjjkjfjaaGreatDoor
