/- Package forms, walked: a byte behind a mark. -/
import Derived.Test.YtjpenioloeplgadGreatDoorFmC
import Derived.Test.YtjpenioloeplgadGreatDoorPk6
import Derived.Test.YtjpenioloeplgadGreatDoorPk8
namespace Go.Proofs.YtjpenioloeplgadGreatDoor
open Go.RowKit

/-- all of a form is put anew -/
theorem FrAt.anew {w : World} {g : Nat} {sk ln : Value} {fo : Option Addr} {nf fcap : Nat} {ah pl pt cd : Int} (h : FrAt w g sk ah ln fo nf fcap pl pt cd) (pl' cd' : Int) :
    FrAt (((((((w.setCell ⟨g, 0, none⟩ (.pointer none)).setCell ⟨g, 1, none⟩ (.int .i64 0)).setCell ⟨g, 2, none⟩ (.pointer none)).setCell ⟨g, 3, none⟩ (.slice none 0 0)).setCell ⟨g, 4, none⟩ (.int .i64 pl')).setCell ⟨g, 5, none⟩ (.int .i64 0)).setCell ⟨g, 6, none⟩ (.int .i64 cd')) g (.pointer none) 0 (.pointer none) none 0 0 pl' 0 cd' ∧
    Turns (fun k => k = g) w (((((((w.setCell ⟨g, 0, none⟩ (.pointer none)).setCell ⟨g, 1, none⟩ (.int .i64 0)).setCell ⟨g, 2, none⟩ (.pointer none)).setCell ⟨g, 3, none⟩ (.slice none 0 0)).setCell ⟨g, 4, none⟩ (.int .i64 pl')).setCell ⟨g, 5, none⟩ (.int .i64 0)).setCell ⟨g, 6, none⟩ (.int .i64 cd')) := by
  have s0 : FrAt (w.setCell ⟨g, 0, none⟩ (.pointer none)) g (.pointer none) ah ln fo nf fcap pl pt cd := ⟨by rw [heap_setCell_same w g 0 _ _ _ h.row]; rfl⟩
  have s1 := s0.s1 0
  have s2 : FrAt (((w.setCell ⟨g, 0, none⟩ (.pointer none)).setCell ⟨g, 1, none⟩ (.int .i64 0)).setCell ⟨g, 2, none⟩ (.pointer none)) g (.pointer none) 0 (.pointer none) fo nf fcap pl pt cd := ⟨by rw [heap_setCell_same _ g 2 _ _ _ s1.row]; rfl⟩
  have s5 := ((s2.s3 none 0 0).s4 pl').s5 0
  refine ⟨⟨by rw [heap_setCell_same _ g 6 _ _ _ s5.row]; rfl⟩, setCells_turns g [.pointer none, .int .i64 0, .pointer none, .slice none 0 0, .int .i64 pl', .int .i64 0, .int .i64 cd'] 0 w⟩
theorem finD_bare : Fm.finD = bareD 3 ⟨#[]⟩ ⟨#[]⟩ ⟨#[]⟩ 0 := rfl
theorem failD_bare (c : Nat) : Fm.failD c = bareD 4 ⟨#[]⟩ ⟨#[]⟩ ⟨#[]⟩ (c : Int) := rfl

set_option maxHeartbeats 2000000 in
theorem takeBehindMark_any (w : World) (S So : Nat → Prop) (g gt : Nat) (m : List UInt8) (s : Fm.St) (c : UInt8) (t : Fm.Td) (h : FmAt w S g m s) (hl : Fm.live s) (hp : s.place = 1 ∨ s.place = 2 ∨ s.place = 3 ∨ s.place = 4) (hO : TdAt w So gt t) (hd : ∀ k, S k → ¬ So k) (hes : t.es.length ≤ 80000) :
    Calls Tryz.prog 71 #[.pointer (some ⟨g, 0, none⟩), .pointer (some ⟨gt, 0, none⟩), .int .u8 c.toNat] w fun e w' => Took w S So g gt m s c t e w' := by
  have hP := Pair.start h hO hd
  have hN := Fm.next_mark m hp hl.1 c
  have HNx := Hid.mk' (next_any w s.place c hp)
  cases hP.fm with
  | dead h2 me row => exact absurd hl h2
  | live h2 me gs gl p fo fcap D row inn =>
    have HP := Hid.mk' hP; have HN := Hid.mk' hN; have HRow := Hid.mk' row; have HL := Hid.mk' hl; have HMe := Hid.mk' me
    have c4 := row.c4; have f4 := row.fz 4
    have hlt := row.lt
    have hgo : ¬ So g := hd g me.1
    have HGo := Hid.mk' hgo
    clear inn row h2 h hO hd hN hP hl me hgo
    generalize hx : (Fm.turn s.place c).1 = x at *
    generalize hy : (Fm.turn s.place c).2 = y at *
    by_cases hy0 : y = 0
    · subst hy0
      by_cases hx6 : x = 6
      · subst hx6
        have hr4 := HRow.out.s4 6
        have c0' := hr4.c0; have c1' := hr4.c1; have c2' := hr4.c2; have c3' := hr4.c3; have c4' := hr4.c4; have c5' := hr4.c5; have c6' := hr4.c6
        have f0' := hr4.fz 0; have f1' := hr4.fz 1; have f2' := hr4.fz 2; have f3' := hr4.fz 3; have f4' := hr4.fz 4; have f5' := hr4.fz 5; have f6' := hr4.fz 6
        obtain ⟨hR7, hT7⟩ := hr4.anew 6 0
        have HR7 := Hid.mk' hR7; have HT7 := Hid.mk' hT7
        have hT : Turns (fun k => S k ∧ k < w.heap.size) w _ := ((FrAt.set w g 4 (.int .i64 6)).trans hT7 (fun _ e _ => e)).mono (S' := fun k => S k ∧ k < w.heap.size) (fun k e => by subst e; exact HMe.out)
        have hDone : FmAt _ (fun k => S k ∧ k < w.heap.size) g m Fm.done := .dead Fm.done_dead HMe.out HR7.out
        have hP7 := HP.out.form hDone hT
        have HP7 := Hid.mk' hP7
        have HAd := Hid.mk' (tdAdd_any _ _ gt t 3 ⟨#[]⟩ ⟨#[]⟩ ⟨#[]⟩ 0 hP7.td (by decide) (by omega))
        clear hr4 hR7 hT7 hT hDone hP7
        go_enter Tryz.func71, Tryz.ntmps71
        go_wp2_with fail
        refine HNx.out.mono ?_
        rintro e w1 ⟨rfl, hw⟩
        subst hw
        go_wp2_with fail
        refine HAd.out.mono ?_
        rintro e w5 ⟨rfl, hO5, hT5⟩
        have HW := Hid.mk' (HP7.out.told hO5 hT5).1
        clear hO5 hT5
        go_wp2
        go_ret
        refine .ok rfl ?_
        rw [HN.out]
        exact HW.out
      · have t6 : ((x : Int) == 6) = false := by rw [beq_eq_false_iff_ne]; omega
        obtain ⟨hm1, hm2⟩ := HP.out.fm.move HL.out x hx6
        have HW := Hid.mk' (HP.out.form hm1 hm2).went
        clear hm1 hm2
        go_enter Tryz.func71, Tryz.ntmps71
        go_wp2_with fail
        refine HNx.out.mono ?_
        rintro e w1 ⟨rfl, hw⟩
        subst hw
        clear HNx hx hy
        go_wp2
        go_ret
        refine .ok rfl ?_
        rw [HN.out, if_neg (fun e => e rfl), if_neg hx6]
        exact HW.out
    · have hx0 : x ≠ 6 := fun e => by
        have := Fm.turn_code s.place c
        rw [hx, hy] at this
        exact hy0 (this e)
      have t6 : ((x : Int) == 6) = false := by rw [beq_eq_false_iff_ne]; omega
      have HR4 := Hid.mk' (HRow.out.s4 (x : Int))
      go_enter Tryz.func71, Tryz.ntmps71
      go_wp2_with fail
      refine HNx.out.mono ?_
      rintro e w1 ⟨rfl, hw⟩
      subst hw
      clear HNx hx hy hx0
      have HT : Hid (Turns (fun k => S k ∧ k < w1.heap.size) w1 (w1.setCell ⟨g, 4, none⟩ (.int .i64 (x : Int)))) := (FrAt.set w1 g 4 _).mono (fun k e => by subst e; exact HMe.out)
      go_wp2
      go_ret
      refine .fail y hy0 (by rw [HN.out, if_pos hy0]) rfl ?_
      exact .mk _ _ _ _ _ _ _ _ _ _ HR4.out (HP.out.td.turns HT.out (fun k e e2 => HP.out.apart k e2.1 e.1)) (fun e => HGo.out e.1) (fun k e => Or.inl e.1) (HT.out.mono (fun k e => Or.inl e.1))
end Go.Proofs.YtjpenioloeplgadGreatDoor
