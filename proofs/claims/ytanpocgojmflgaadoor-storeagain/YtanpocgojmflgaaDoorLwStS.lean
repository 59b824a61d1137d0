/- The statements' own: step, walked. -/
import Derived.Test.YtanpocgojmflgaaDoorPk19
namespace Go.Proofs.YtanpocgojmflgaaDoor
open Go.RowKit

/-- what a step answered, and what became of the object -/
structure StRan (S : Nat → Prop) (w : World) (g : Nat) (s : Sr.Sh) (x : Sr.X) (e : Ending) (w' : World) : Prop where
  ret : e = .returned (.tuple #[.int .i64 (Sr.gave_ s x), .int .i64 ((Sr.step s x).2 : Int)])
  at_ : StAt w' (orNew S w) g (Sr.step s x).1
  turns : Turns S w w'
theorem StRan.from_ {S : Nat → Prop} {w w1 w' : World} {g : Nat} {s : Sr.Sh} {x : Sr.X} {e : Ending} (hb : Below w.heap.size w w1) (h : StRan S w1 g s x e w') : StRan S w g s x e w' := by
  have hsz := hb.size
  refine ⟨h.ret, h.at_.mono (fun k _ e => ?_), (Turns.of_below hb).trans h.turns (fun _ e _ => e)⟩
  rcases e with e | e
  · exact Or.inl e
  · exact Or.inr (by omega)
set_option maxRecDepth 100000 in
set_option maxHeartbeats 3200000 in
theorem step_any {s : Sr.Sh} {S : Nat → Prop} {g : Nat} {w : World} (h : StAt w S g s) (ok : Sr.Ok s) (x : Sr.X) (hm : x.text.size ≤ 1000000) :
    Calls Tryd.prog 9 #[.pointer (some ⟨g, 0, none⟩), .agg #[.int .i64 x.op, .int .i64 x.id, .int .i64 x.n, .string x.text]] w (StRan S w g s x) := by
  obtain ⟨op, id, n, tx⟩ := x
  simp only at hm ⊢
  have hbA := (Below.refl _ w).alloc (Nat.le_refl _) (.cells #[.int .i64 op, .int .i64 id, .int .i64 n, .string tx] 37)
  have h1 := h.stay hbA
  obtain ⟨⟨x0, x1, x2, x3⟩, _⟩ := row4 (heap_alloc_new w (.cells #[.int .i64 op, .int .i64 id, .int .i64 n, .string tx] 37))
  obtain ⟨W, hW⟩ : ∃ W, (w.alloc (.cells #[.int .i64 op, .int .i64 id, .int .i64 n, .string tx] 37)) = W := ⟨_, rfl⟩
  rw [hW] at hbA h1 x0 x1 x2 x3
  have HB := Hid.mk' hbA
  have HFr : Hid (∀ e w', StRan S W g s ⟨op, id, n, tx⟩ e w' → StRan S w g s ⟨op, id, n, tx⟩ e w') := fun e w' hr => hr.from_ HB.out
  by_cases o0 : op = 0
  · subst o0
    have HC := Hid.mk' (createSt_any h1 ok n tx hm)
    have HP : Hid (∀ e w', StMade S W g s (Sr.create s n tx) e w' → StRan S W g s ⟨0, id, n, tx⟩ e w') := fun e w' hd => ⟨hd.ret, hd.at_, hd.turns⟩
    clear h ok h1 hbA hm
    generalize Sr.create s n tx = q at *
    go_enter Tryd.func9, Tryd.ntmps9
    go_wp2_with fail
    refine HC.out.mono ?_
    intro e w2 hd
    have HD := Hid.mk' (HFr.out _ _ (HP.out _ _ hd))
    obtain ⟨rfl, _, _⟩ := hd
    clear HP
    generalize Sr.numb s q.2 = nu at *
    go_wp2
    go_ret2
    exact HD.out
  by_cases o1 : op = 1
  · subst o1
    obtain ⟨bc, W3, hcv, hb3, hs3, hIB⟩ := bytes_of (P := Tryd.prog) W tx 9 43 5 Tryd.underlying9 Tryd.underlying43 Tryd.underlying5
    have HB3 := Hid.mk' hb3
    have HC := Hid.mk' (appendSt_any (h1.stay hb3) ok id n _ tx.size bc tx.data.toList hIB (by simp) hm)
    have HP : Hid (∀ e w', StDid S W3 g (Sr.append s id n tx.data.toList) e w' → StRan S W g s ⟨1, id, n, tx⟩ (.returned (.tuple #[.int .i64 0, .int .i64 ((Sr.append s id n tx.data.toList).2 : Int)])) w') := fun e w' hd => StRan.from_ HB3.out ⟨rfl, hd.at_, hd.turns⟩
    clear h ok h1 hbA hm hb3 hs3 hIB
    generalize Sr.append s id n tx.data.toList = q at *
    go_enter Tryd.func9, Tryd.ntmps9
    go_wp2_with fail
    refine HC.out.mono ?_
    intro e w2 hd
    have HD := Hid.mk' (HFr.out _ _ (HP.out _ _ hd))
    obtain ⟨rfl, _, _⟩ := hd
    clear HP
    go_wp2
    go_ret2
    exact HD.out
  by_cases o2 : op = 2
  · subst o2
    have HC := Hid.mk' (declareSt_any h1 ok id n)
    have HP : Hid (∀ e w', StDid S W g (Sr.declare s id n) e w' → StRan S W g s ⟨2, id, n, tx⟩ (.returned (.tuple #[.int .i64 0, .int .i64 ((Sr.declare s id n).2 : Int)])) w') := fun e w' hd => ⟨rfl, hd.at_, hd.turns⟩
    clear h ok h1 hbA hm
    generalize Sr.declare s id n = q at *
    go_enter Tryd.func9, Tryd.ntmps9
    go_wp2_with fail
    refine HC.out.mono ?_
    intro e w2 hd
    have HD := Hid.mk' (HFr.out _ _ (HP.out _ _ hd))
    obtain ⟨rfl, _, _⟩ := hd
    clear HP
    go_wp2
    go_ret2
    exact HD.out
  by_cases o3 : op = 3
  · subst o3
    have HC := Hid.mk' (dropSt_any h1 ok id)
    have HP : Hid (∀ e w', StDid S W g (Sr.drop s id) e w' → StRan S W g s ⟨3, id, n, tx⟩ (.returned (.tuple #[.int .i64 0, .int .i64 ((Sr.drop s id).2 : Int)])) w') := fun e w' hd => ⟨rfl, hd.at_, hd.turns⟩
    clear h ok h1 hbA hm
    generalize Sr.drop s id = q at *
    go_enter Tryd.func9, Tryd.ntmps9
    go_wp2_with fail
    refine HC.out.mono ?_
    intro e w2 hd
    have HD := Hid.mk' (HFr.out _ _ (HP.out _ _ hd))
    obtain ⟨rfl, _, _⟩ := hd
    clear HP
    go_wp2
    go_ret2
    exact HD.out
  by_cases o4 : op = 4
  · subst o4
    have HC := Hid.mk' (beginSt_any h1 ok id)
    have HP : Hid (∀ e w', StDid S W g (Sr.begins s id) e w' → StRan S W g s ⟨4, id, n, tx⟩ (.returned (.tuple #[.int .i64 0, .int .i64 ((Sr.begins s id).2 : Int)])) w') := fun e w' hd => ⟨rfl, hd.at_, hd.turns⟩
    clear h ok h1 hbA hm
    generalize Sr.begins s id = q at *
    go_enter Tryd.func9, Tryd.ntmps9
    go_wp2_with fail
    refine HC.out.mono ?_
    intro e w2 hd
    have HD := Hid.mk' (HFr.out _ _ (HP.out _ _ hd))
    obtain ⟨rfl, _, _⟩ := hd
    clear HP
    go_wp2
    go_ret2
    exact HD.out
  by_cases o5 : op = 5
  · subst o5
    have HC := Hid.mk' (endSt_any h1 ok id)
    have HP : Hid (∀ e w', StDid S W g (Sr.ends s id) e w' → StRan S W g s ⟨5, id, n, tx⟩ (.returned (.tuple #[.int .i64 0, .int .i64 ((Sr.ends s id).2 : Int)])) w') := fun e w' hd => ⟨rfl, hd.at_, hd.turns⟩
    clear h ok h1 hbA hm
    generalize Sr.ends s id = q at *
    go_enter Tryd.func9, Tryd.ntmps9
    go_wp2_with fail
    refine HC.out.mono ?_
    intro e w2 hd
    have HD := Hid.mk' (HFr.out _ _ (HP.out _ _ hd))
    obtain ⟨rfl, _, _⟩ := hd
    clear HP
    go_wp2
    go_ret2
    exact HD.out
  by_cases o6 : op = 6
  · subst o6
    have HC := Hid.mk' (syncSt_any h1)
    have HP : Hid (∀ w', StAt w' S g (Sr.sync s) → Turns S W w' → StRan S W g s ⟨6, id, n, tx⟩ (.returned (.tuple #[.int .i64 0, .int .i64 0])) w') := fun w' h1 h2 => ⟨rfl, h1.mono (fun _ _ e => Or.inl e), h2⟩
    clear h ok h1 hbA hm
    go_enter Tryd.func9, Tryd.ntmps9
    go_wp2_with fail
    refine HC.out.mono ?_
    rintro e w2 ⟨rfl, hA, hT⟩
    have HD := Hid.mk' (HFr.out _ _ (HP.out _ hA hT))
    clear HP hA hT
    go_wp2
    go_ret2
    exact HD.out
  by_cases o7 : op = 7
  · subst o7
    have HC := Hid.mk' (crashSt_any h1 ok n)
    have HP : Hid (∀ w', StFell S W g (Sr.crash s n) w' → StRan S W g s ⟨7, id, n, tx⟩ (.returned (.tuple #[.int .i64 0, .int .i64 0])) w') := fun w' hd => ⟨rfl, hd.at_, hd.turns⟩
    clear h ok h1 hbA hm
    go_enter Tryd.func9, Tryd.ntmps9
    go_wp2_with fail
    refine HC.out.mono ?_
    rintro e w2 ⟨rfl, hA⟩
    have HD := Hid.mk' (HFr.out _ _ (HP.out _ hA))
    clear HP hA
    go_wp2
    go_ret2
    exact HD.out
  have HD : Hid (StRan S W g s ⟨op, id, n, tx⟩ (.returned (.tuple #[.int .i64 0, .int .i64 0])) W) := by
    refine ⟨?_, ?_, Turns.refl _ _⟩
    · simp only [Sr.gave_, Sr.step, if_neg o0, if_neg o1, if_neg o2, if_neg o3, if_neg o4, if_neg o5, if_neg o6, if_neg o7]; rfl
    · simp only [Sr.step, if_neg o0, if_neg o1, if_neg o2, if_neg o3, if_neg o4, if_neg o5, if_neg o6, if_neg o7]
      exact h1.mono (fun _ _ e => Or.inl e)
  have HD2 := Hid.mk' (HFr.out _ _ HD.out)
  clear h ok h1 hbA hm HD HFr
  go_enter Tryd.func9, Tryd.ntmps9
  go_wp2
  go_ret2
  exact HD2.out
end Go.Proofs.YtanpocgojmflgaaDoor
