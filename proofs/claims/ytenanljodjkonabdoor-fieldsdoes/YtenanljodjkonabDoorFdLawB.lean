/- FieldsBack, walked. -/
import Derived.Test.YtenanljodjkonabDoorFdParse
import Derived.Test.YtenanljodjkonabDoorFdText
import Derived.Test.YtenanljodjkonabDoorLwGreat
import Derived.Test.YtenanljodjkonabDoorStFld
namespace Go.Proofs.YtenanljodjkonabDoor
open Go.RowKit

theorem begun_of : Fd.of [72, 111, 115, 116, 58, 32, 32, 97, 32, 98, 32] = ⟨[72, 111, 115, 116], [97, 32, 98], 0⟩ := by kernel_rfl
theorem begun_text : Fd.text [72, 111, 115, 116] [97, 32, 98] = ([72, 111, 115, 116, 58, 32, 97, 32, 98], 0) := by kernel_rfl

theorem fieldsBegun_any (w : World) :
    Calls Tryd.prog 5 #[] w fun e w' => e = .returned (.bool true) ∧ Below w.heap.size w w' := by
  have HP : Hid (Calls Tryd.prog 7 #[.string ⟨#[72, 111, 115, 116, 58, 32, 32, 97, 32, 98, 32]⟩] w fun e w' => e = .returned (.tuple #[.agg #[.string ⟨#[72, 111, 115, 116]⟩, .string ⟨#[97, 32, 98]⟩], .int .i64 0]) ∧ Below w.heap.size w w') := by
    have := parse_any ⟨#[72, 111, 115, 116, 58, 32, 32, 97, 32, 98, 32]⟩ w (by decide)
    rw [begun_of] at this
    exact this
  have HT : Hid (∀ W, Calls Tryd.prog 9 #[.agg #[.string ⟨#[72, 111, 115, 116]⟩, .string ⟨#[97, 32, 98]⟩]] W fun e w' => e = .returned (.tuple #[.string ⟨#[72, 111, 115, 116, 58, 32, 97, 32, 98]⟩, .int .i64 0]) ∧ Below W.heap.size W w') := fun W => by
    have := text_any ⟨#[72, 111, 115, 116]⟩ ⟨#[97, 32, 98]⟩ W (by decide) (by decide)
    rw [begun_text] at this
    exact this
  go_enter Tryd.func5, Tryd.ntmps5
  go_wp2_with fail
  refine HP.out.mono ?_
  rintro e w1 ⟨rfl, hb1⟩
  have B1 := Hid.mk' hb1
  clear hb1 HP
  go_wp2_with fail
  refine (HT.out _).mono ?_
  rintro e w2 ⟨rfl, hb2⟩
  have X2 := (BoxAt.made w1 ⟨#[72, 111, 115, 116]⟩ ⟨#[97, 32, 98]⟩ _).stay hb2
  have B2 := Hid.mk' (then_ B1.out X2.below)
  have c1 := X2.c1
  clear hb2 X2 B1 HT
  go_wp2
  go_ret
  exact ⟨rfl, B2.out⟩

/-- what Parse answers of a line: a field, or a code and nothing -/
theorem parse_is (l : ByteArray) (hl : l.size ≤ 2000) : ∃ (gn gv : ByteArray) (c : Nat), (∀ W, Calls Tryd.prog 7 #[.string l] W fun e w' => e = .returned (.tuple #[.agg #[.string gn, .string gv], .int .i64 (c : Int)]) ∧ Below W.heap.size W w') ∧
    (c ≠ 0 → gn = ⟨#[]⟩ ∧ gv = ⟨#[]⟩) ∧ (c = 0 → Fd.Good gn.data.toList gv.data.toList) ∧ gn.size ≤ 2000 ∧ gv.size ≤ 2000 := by
  have hz := Fd.of_length l.data.toList
  rw [Ch.len_list] at hz
  refine ⟨⟨(Fd.of l.data.toList).name.toArray⟩, ⟨(Fd.of l.data.toList).value.toArray⟩, (Fd.of l.data.toList).code, fun W => parse_any l W hl, fun h => ?_, fun h => Fd.of_good h, ?_, ?_⟩
  · have := Fd.of_bad h
    rw [this.1, this.2]; exact ⟨rfl, rfl⟩
  · show (Fd.of l.data.toList).name.toArray.size ≤ 2000
    rw [List.size_toArray]; omega
  · show (Fd.of l.data.toList).value.toArray.size ≤ 2000
    rw [List.size_toArray]; omega
/-- what Text answers of a field that is well made -/
theorem text_is (n v : ByteArray) (hn : n.size ≤ 2000) (hv : v.size ≤ 2000) : ∃ (tx : ByteArray) (c : Nat), (∀ W, Calls Tryd.prog 9 #[.agg #[.string n, .string v]] W fun e w' => e = .returned (.tuple #[.string tx, .int .i64 (c : Int)]) ∧ Below W.heap.size W w') ∧
    (c = 0 → tx.size ≤ 200 ∧ ∀ W, Calls Tryd.prog 7 #[.string tx] W fun e w' => e = .returned (.tuple #[.agg #[.string n, .string v], .int .i64 0]) ∧ Below W.heap.size W w') ∧
    (Fd.Good n.data.toList v.data.toList → (c = 0 ∨ (c = 4 ∧ 200 < n.size + 2 + v.size))) := by
  refine ⟨⟨(Fd.text n.data.toList v.data.toList).1.toArray⟩, (Fd.text n.data.toList v.data.toList).2, fun W => text_any n v W hn hv, fun h => ?_, fun h => ?_⟩
  · obtain ⟨hg, hl⟩ := Fd.text_zero h
    have hsz : (⟨(Fd.text n.data.toList v.data.toList).1.toArray⟩ : ByteArray).size ≤ 200 := by
      have := Fd.text_length n.data.toList v.data.toList
      show (Fd.text n.data.toList v.data.toList).1.toArray.size ≤ 200
      rw [List.size_toArray]; omega
    refine ⟨hsz, fun W => ?_⟩
    have := parse_any ⟨(Fd.text n.data.toList v.data.toList).1.toArray⟩ W (by omega)
    have e : (⟨(Fd.text n.data.toList v.data.toList).1.toArray⟩ : ByteArray).data.toList = n.data.toList ++ [58, 32] ++ v.data.toList := by rw [Fd.text_good hg hl]
    rw [e, Fd.of_text hg] at this
    exact this
  · by_cases hl : n.data.toList.length + 2 + v.data.toList.length ≤ 200
    · rw [Fd.text_good h hl]; exact Or.inl rfl
    · rw [Fd.text_long h hl]
      rw [Ch.len_list, Ch.len_list] at hl
      exact Or.inr ⟨rfl, by omega⟩

set_option maxRecDepth 100000 in
set_option maxHeartbeats 1600000 in
theorem fieldsBack_any (n v line : ByteArray) (w : World) (hn : n.size ≤ reachBytes) (hv : v.size ≤ reachBytes) :
    Calls Tryd.prog 4 #[.agg #[.string n, .string v], .string line] w fun e w' => e = .returned (.bool true) ∧ Below w.heap.size w w' := by
  unfold reachBytes at hn hv
  have HG : Hid (∀ W : World, Calls Tryd.prog 6 #[.slice (some ⟨W.heap.size, 0, none⟩) 1 1] (W.alloc (.cells #[.string n, .string v] 23)) fun e w' => ∃ b : Bool, e = .returned (.bool b) ∧ (b = false → n.size + v.size ≤ 1000) ∧ ∃ q, w' = (W.alloc (.cells #[.string n, .string v] 23)).drewN q) := fun W => by
    refine (greatFields_any [(n, v)] _ 1 1 (W.alloc (.cells #[.string n, .string v] 23)) (IsV.made W #[.string n, .string v] 1 _ _) rfl (fun p hp => by rw [List.mem_singleton] at hp; subst hp; show n.size + v.size ≤ maxLen; unfold maxLen; omega)).mono ?_
    rintro e w' ⟨b, rfl, h, hq⟩
    exact ⟨b, rfl, fun e => (h e).2 (n, v) (List.mem_singleton.2 rfl), hq⟩
  go_enter Tryd.func4, Tryd.ntmps4
  go_wp2_with fail
  refine (fieldsBegun_any _).mono ?_
  rintro e w1 ⟨rfl, hb1⟩
  have X1 := Hid.mk' ((BoxAt.made w n v _).stay hb1)
  have c0 := X1.out.c0
  have c1 := X1.out.c1
  clear hb1
  go_wp2_with fail
  refine (HG.out _).mono ?_
  rintro e w2 ⟨b, rfl, hsm, q, hw⟩
  have X2 : Hid (BoxAt w n v w2) := by
    rw [hw]; exact X1.out.stay (((Below.refl _ _).alloc (Nat.le_refl _) _).trans ⟨rfl, rfl, rfl, Nat.le_refl _, fun _ _ => rfl⟩)
  clear hw HG c0 c1 X1
  cases b
  · have hs := hsm rfl
    by_cases hl : 2000 < line.size
    · go_wp2
      go_ret
      exact ⟨rfl, X2.out.below⟩
    · obtain ⟨tx, c, HT0, HTP0, _⟩ := text_is n v (by omega) (by omega)
      obtain ⟨gn, gv, d, HP0, hbad, hgood, zg1, zg2⟩ := parse_is line (by omega)
      obtain ⟨ty, k, HU0, HUP0, hk⟩ := text_is gn gv zg1 zg2
      have HT := Hid.mk' HT0
      have HTP := Hid.mk' HTP0
      have HP := Hid.mk' HP0
      have HU := Hid.mk' HU0
      have HUP := Hid.mk' HUP0
      have HBad := Hid.mk' hbad
      have HGood := Hid.mk' hgood
      have HK := Hid.mk' hk
      clear HT0 HTP0 HP0 HU0 HUP0 hbad hgood hk hsm
      have c0 := X2.out.c0
      have c1 := X2.out.c1
      have tl : decide ((line.size : Int) > 2000) = false := by rw [decide_eq_false_iff_not]; omega
      go_wp2_with fail
      refine (HT.out _).mono ?_
      rintro e w3 ⟨rfl, hb3⟩
      have X3 := Hid.mk' (X2.out.stay hb3)
      clear hb3 c0 c1 X2 HT
      have hqe : ∀ a b : ByteArray, ((a.toList == a.toList) && (b.toList == b.toList)) = true := fun a b => by rw [beq_self_eq_true, beq_self_eq_true]; rfl
      have HQ := Hid.mk' hqe
      clear hqe
      have hgu := guard_field
      by_cases hc : c = 0
      · subst hc
        have HTQ := Hid.mk' (HTP.out rfl).2
        have hz := (HTP.out rfl).1
        clear HTP
        have tz : decide ((tx.size : Int) > 200) = false := by rw [decide_eq_false_iff_not]; omega
        have hne := fun W => neq_field n v n v W
        rw [HQ.out n v] at hne
        go_wp2_with fail
        refine (HTQ.out _).mono ?_
        rintro e w4 ⟨rfl, hb4⟩
        have X4 := Hid.mk' ((X3.out.stay hb4).alloc (.cells #[.string n, .string v] 23))
        have c0 := X4.out.c0
        have c1 := X4.out.c1
        have BX := Hid.mk' X4.out.below
        clear hb4 X3 HTQ X4
        go_wp2_with fail
        refine (HP.out _).mono ?_
        rintro e w6 ⟨rfl, hb6⟩
        have B6 := Hid.mk' (BX.out.trans (hb6.mono (by have := BX.out.size; simp at this ⊢; omega)))
        clear hb6 HP BX
        by_cases hd : d = 0
        · subst hd
          have HGd := Hid.mk' (HGood.out rfl)
          clear HGood HBad
          go_wp2_with fail
          refine (HU.out _).mono ?_
          rintro e w7 ⟨rfl, hb7⟩
          have X7 := Hid.mk' ((BoxAt.made w6 gn gv _).stay hb7)
          clear hb7 HU
          rcases HK.out HGd.out with hk | ⟨hk, hlong⟩
          · subst hk
            have HUQ := Hid.mk' (HUP.out rfl).2
            have heq := fun W => eql_field gn gv gn gv W
            rw [HQ.out gn gv] at heq
            clear HUP HK HGd
            go_wp2_with fail
            refine (HUQ.out _).mono ?_
            rintro e w8 ⟨rfl, hb8⟩
            have X8 := Hid.mk' ((X7.out.stay hb8).alloc (.cells #[.string gn, .string gv] 23))
            have d0 := X8.out.c0
            have d1 := X8.out.c1
            clear hb8 X7 HUQ
            go_wp2
            go_ret
            exact ⟨rfl, then_ B6.out X8.out.below⟩
          · subst hk
            have d0 := X7.out.c0
            have d1 := X7.out.c1
            have tl2 : decide ((gn.size : Int) + 2 + gv.size > 200) = true := by rw [decide_eq_true_eq]; omega
            go_wp2
            go_ret
            exact ⟨rfl, then_ B6.out X7.out.below⟩
        · obtain ⟨rfl, rfl⟩ := HBad.out hd
          have td : ((d : Int) != 0) = true := by rw [bne_iff_ne]; omega
          have heq := fun W => eql_field ⟨#[]⟩ ⟨#[]⟩ ⟨#[]⟩ ⟨#[]⟩ W
          rw [HQ.out ⟨#[]⟩ ⟨#[]⟩] at heq
          go_wp2
          go_ret
          exact ⟨rfl, B6.out.alloc B6.out.size _⟩
      · have tc : ((c : Int) == 0) = false := by rw [beq_eq_false_iff_ne]; omega
        have BX := Hid.mk' X3.out.below
        clear HTP X3
        go_wp2_with fail
        refine (HP.out _).mono ?_
        rintro e w6 ⟨rfl, hb6⟩
        have B6 := Hid.mk' (BX.out.trans (hb6.mono (by have := BX.out.size; simp at this ⊢; omega)))
        clear hb6 HP BX
        by_cases hd : d = 0
        · subst hd
          have HGd := Hid.mk' (HGood.out rfl)
          clear HGood HBad
          go_wp2_with fail
          refine (HU.out _).mono ?_
          rintro e w7 ⟨rfl, hb7⟩
          have X7 := Hid.mk' ((BoxAt.made w6 gn gv _).stay hb7)
          clear hb7 HU
          rcases HK.out HGd.out with hk | ⟨hk, hlong⟩
          · subst hk
            have HUQ := Hid.mk' (HUP.out rfl).2
            have heq := fun W => eql_field gn gv gn gv W
            rw [HQ.out gn gv] at heq
            clear HUP HK HGd
            go_wp2_with fail
            refine (HUQ.out _).mono ?_
            rintro e w8 ⟨rfl, hb8⟩
            have X8 := Hid.mk' ((X7.out.stay hb8).alloc (.cells #[.string gn, .string gv] 23))
            have d0 := X8.out.c0
            have d1 := X8.out.c1
            clear hb8 X7 HUQ
            go_wp2
            go_ret
            exact ⟨rfl, then_ B6.out X8.out.below⟩
          · subst hk
            have d0 := X7.out.c0
            have d1 := X7.out.c1
            have tl2 : decide ((gn.size : Int) + 2 + gv.size > 200) = true := by rw [decide_eq_true_eq]; omega
            go_wp2
            go_ret
            exact ⟨rfl, then_ B6.out X7.out.below⟩
        · obtain ⟨rfl, rfl⟩ := HBad.out hd
          have td : ((d : Int) != 0) = true := by rw [bne_iff_ne]; omega
          have heq := fun W => eql_field ⟨#[]⟩ ⟨#[]⟩ ⟨#[]⟩ ⟨#[]⟩ W
          rw [HQ.out ⟨#[]⟩ ⟨#[]⟩] at heq
          go_wp2
          go_ret
          exact ⟨rfl, B6.out.alloc B6.out.size _⟩
  · go_wp2
    go_ret
    exact ⟨rfl, X2.out.below⟩
end Go.Proofs.YtenanljodjkonabDoor
