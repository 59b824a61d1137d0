/- ParamsBack: there and back: for every value and text, a value that has a text is read as it was, and a text that is a value has a text that is read as that value; no argument turns. No condition. -/
import Derived.Test.YtohddkniphcecabRows
import Derived.Test.YtohddkniphcecabPk16
import Derived.Test.YtohddkniphcecabPk17
import Derived.ProofKit
import Derived.OpenShut
namespace Go.Proofs.Ytohddkniphcecab.paramsBack
open Go.ChangeShapes Go.WideShapes Go.ChangeAt Go.RowKit
open Go.ChangeMaps (open_string shut_string)

theorem own : ownKnob Try.prog.godebug = none := by kernel_rfl

set_option maxRecDepth 100000 in
theorem lifted (os : Os) (started : os.Started) (H : Type) (enc : TypeId × Value → H) :
    ReturnsInHanded {} Try.checked os 4 .any (Rows.paramsBackSpec.pre6 enc Try.prog Try.f4 Rows.paramsBackRow.domain false) (Rows.paramsBackSpec.post enc Try.prog Try.f4 false true false false) := by
  refine returnsInHanded_of_change_shaped (C := Try.checked) own started (by kernel_rfl) Try.func4
    (ChangeSpec.witness6 (enc := enc) (C := Try.checked) false ⟨#[], #[.agg #[.string .empty, .slice none 0 0], .string .empty], []⟩ 8 (by kernel_rfl) (by kernel_rfl) (by kernel_rfl) (by kernel_rfl)) ?_
  intro W base args ds gs before hval0 hW _ hwt0 _ _
  have hval : ∀ (j : Nat) t v, Try.f4.params[j]? = some t → args[j]? = some v → Value.okWide Try.prog W .any base t v := hval0
  have hwt : (DataW.weightsEach Try.prog (Try.f4.params.toList ++ Rows.paramsBackSpec.plain.varTypes Try.prog) (ds ++ gs)).all (· ≤ reachBytes) = true := hwt0
  have hW' := hW
  obtain ⟨p, q, hA0, hV, rfl, _, _⟩ := hW
  have hA : DataW.TrodAll enc Try.prog W 0 (fun _ => true) true Try.f4.params.toList args.toList ds p := hA0
  have hvt : Rows.paramsBackSpec.plain.varTypes Try.prog = [] := by kernel_rfl
  rw [hvt, List.append_nil] at hwt
  rw [Try.params4] at hA hval hwt
  obtain ⟨v0, vs0, d0, ds0, p0, q0, hargs, rfl, rfl, h0, r0⟩ := trodAll_cons hA
  obtain ⟨v1, vs1, d1, ds1, p1, q1, rfl, rfl, rfl, h1, r1⟩ := trodAll_cons r0
  obtain ⟨rfl, rfl, rfl⟩ := trodAll_nil r1
  obtain rfl : args = #[v0, v1] := by cases args; simp_all
  obtain ⟨rfl, rfl⟩ := trodVars_none hV
  have hL := light_all hwt
  obtain ⟨L0, hL0⟩ := light_first hL
  obtain ⟨s, rfl, rfl, rfl, hs⟩ := open_string Try.underlying9 (hval 1 9 v1 rfl rfl) h1
  obtain ⟨cs, rfl, _⟩ := okWide_struct Try.underlying24 (hval 0 24 v0 rfl rfl)
  have hmk := h0
  obtain ⟨fa, hfa⟩ := h0
  obtain ⟨wd, a0, cap, l, hcs, hl, zw, zl⟩ := open_media (s := 9) (u := 22) (e := 37) Try.underlying24 rfl rfl rfl rfl Try.underlying22 Try.underlying37 rfl rfl rfl rfl Try.underlying9 (by kernel_rfl) (by kernel_rfl) (by kernel_rfl) (by kernel_rfl) hfa L0
  obtain rfl : cs = #[.string wd, .slice a0 l.length cap] := by
    cases cs; simpa [Value.cells] using hcs
  clear hA0
  simp only [List.append_nil] at hW'
  have hlt : ∀ x ∈ p0, x.block < W.heap.size := fun x hx => by simpa using hW'.lt x (by simpa using hx)
  unfold reachBytes at zw zl
  have walk := paramsBack_any s wd l a0 cap W hl (by omega) (fun q hq => by have := zl q hq; omega)
  refine walk.mono fun e W' ⟨he, hg⟩ => ?_
  subst he
  refine ⟨_, rfl, _, _, _, [], _, [], hW', trodAll_mk1 (shut_bool Try.underlying4 _), (trodAll_cons_mk (Below.trod laid_out (by kernel_rfl) (of_decide_eq_true (by kernel_rfl)) hmk hg (fun x hx => hlt x hx)) (trodAll_cons_mk (shut_string Try.underlying9 hs) trodAll_mk0)), rfl, hg.frame _, fun h => by cases h⟩
end Go.Proofs.Ytohddkniphcecab.paramsBack

namespace Go.Proofs.Ytohddkniphcecab
/-- THE ROW. -/
theorem paramsBack_holds : Rows.ParamsBackSaid :=
  OpenClaim.holds_of_wide 4 Try.f4 rfl rfl rfl rfl rfl rfl rfl ⟨rfl, rfl, rfl, rfl, rfl⟩ rfl rfl rfl rfl rfl (by kernel_rfl) Try.func4 (by kernel_rfl)
    (of_decide_eq_true (by kernel_rfl)) (by unfold Func.isWrapper; first | (rw [if_pos (by decide +kernel)]; kernel_rfl) | (rw [if_neg (by decide +kernel)]; exact ⟨rfl, rfl⟩))
    (fun os started H enc _ => paramsBack.lifted os started H enc)
end Go.Proofs.Ytohddkniphcecab
