/- Package fields, walked: Parse. -/
import Derived.Test.YtenanljodjkonabDoorRfField
import Derived.Test.YtenanljodjkonabDoorStCut
import Derived.Test.YtenanljodjkonabDoorCsTrim
import Derived.Test.YtenanljodjkonabDoorCsIsTok
import Derived.Test.YtenanljodjkonabDoorCsIsVis
namespace Go.Proofs.YtenanljodjkonabDoor
open Go.RowKit

/-- a block of two empty texts that a call made first, to answer by -/
structure ResAt (w W : World) : Prop where
  c0 : W.cell? ⟨w.heap.size, 0, none⟩ = some (.string ⟨#[]⟩)
  c1 : W.cell? ⟨w.heap.size, 1, none⟩ = some (.string ⟨#[]⟩)
  f0 : W.frozen? ⟨w.heap.size, 0, none⟩ = false
  f1 : W.frozen? ⟨w.heap.size, 1, none⟩ = false
  below : Below w.heap.size w W
  lt : w.heap.size < W.heap.size
theorem ResAt.made (w : World) (t : Nat) : ResAt w (w.alloc (.cells #[.string ⟨#[]⟩, .string ⟨#[]⟩] t)) :=
  ⟨World.cell?_alloc_mark w _ _ _ 0, World.cell?_alloc_mark w _ _ _ 1, World.frozen?_alloc_mark w _ _ _ _ 0, World.frozen?_alloc_mark w _ _ _ _ 1, (Below.refl _ _).alloc (Nat.le_refl _) _, by simp⟩
theorem ResAt.stay {w W W' : World} (h : ResAt w W) (hb : Below W.heap.size W W') : ResAt w W' :=
  ⟨(hb.cell (p := ⟨w.heap.size, 0, none⟩) h.lt).trans h.c0, (hb.cell (p := ⟨w.heap.size, 1, none⟩) h.lt).trans h.c1, (hb.frozen (p := ⟨w.heap.size, 0, none⟩) h.lt).trans h.f0, (hb.frozen (p := ⟨w.heap.size, 1, none⟩) h.lt).trans h.f1, then_ h.below hb, Nat.lt_of_lt_of_le h.lt hb.size⟩
theorem ResAt.drewN {w W : World} (h : ResAt w W) (n : Nat) : ResAt w (W.drewN n) := h.stay (drewN_below ⟨n, rfl⟩)

set_option maxHeartbeats 1600000 in
theorem parse_any (s : ByteArray) (w : World) (hs : s.size ≤ 2000) :
    Calls Tryd.prog 7 #[.string s] w fun e w' => e = .returned (Fd.val (Fd.of s.data.toList)) ∧ Below w.heap.size w w' := by
  have HC := Hid.mk' (fun W => cut_one s 58 W (by unfold maxLen; omega))
  have hl : s.data.toList.length = s.size := by rw [Array.length_toList]; rfl
  have HO := Hid.mk' (Fd.of_trim s.data.toList)
  rw [hl] at HO
  unfold Fd.cutV at HC
  by_cases h0 : Fd.at_ 58 s.data.toList = s.size
  · rw [if_pos h0] at HC
    have HR : Hid (Fd.of s.data.toList = Fd.bad 5) := by have := HO.out; rw [if_pos h0] at this; exact this
    clear HO h0 hl
    go_enter Tryd.func7, Tryd.ntmps7
    go_wp2_with fail
    refine (HC.out _).mono ?_
    rintro e w1 ⟨rfl, n, hw⟩
    have A1 : Hid (ResAt w w1) := by rw [hw]; exact (ResAt.made w _).drewN n
    clear hw HC
    go_wp2_with fail
    refine (trim_any ⟨#[]⟩ w1 (by decide)).mono ?_
    rintro e w2 ⟨rfl, hb2⟩
    have A2 := Hid.mk' (A1.out.stay hb2)
    have c0 := A2.out.c0; have c1 := A2.out.c1; have f0 := A2.out.f0; have f1 := A2.out.f1
    clear A1 hb2
    go_wp2
    refine bodyPost_ret (v := .tuple #[.agg #[.string ⟨#[]⟩, .string ⟨#[]⟩], .int .i64 5]) (by simp [results, Tryd.results7, go_sem, c0, c1]) rfl ⟨by rw [HR.out]; rfl, ?_⟩
    exact (A2.out.below.setCell (Nat.le_refl _) _).setCell (Nat.le_refl _) _
  · rw [if_neg h0] at HC
    have hk := Fd.at_le 58 s.data.toList
    rw [hl] at hk
    have h1 := HO.out
    rw [if_neg h0] at h1
    have hlt : Fd.at_ 58 s.data.toList < s.size := by omega
    clear HO h0 hl hk
    generalize Fd.at_ 58 s.data.toList = k at HC h1 hlt
    have e1 : (s.extract 0 k).data.toList = s.data.toList.take k := by rw [Lib.extract_data]; simp
    have e2 : (s.extract (k + 1) s.size).data.toList = s.data.toList.drop (k + 1) := Lib.extract_to_end s (k + 1)
    rw [← e1, ← e2] at h1
    have z1 : (s.extract 0 k).size = k := by simp; omega
    have z2 : (s.extract (k + 1) s.size).size ≤ 2000 := by simp; omega
    have HT := Hid.mk' (fun W => isToken_any (s.extract 0 k) W (by rw [z1]; unfold maxLen; omega))
    have HTr := Hid.mk' (fun W => trim_any (s.extract (k + 1) s.size) W z2)
    have HCl := Hid.mk' (fun W => sclone_any (s.extract 0 k) W (by omega))
    have hzv : (⟨(Lib.trimS (s.extract (k + 1) s.size).data.toList Ch.ws).toArray⟩ : ByteArray).size ≤ maxLen := by
      have h1 := trimS_le (s.extract (k + 1) s.size).data.toList
      rw [Ch.len_list] at h1
      show (Lib.trimS _ Ch.ws).toArray.size ≤ maxLen
      rw [List.size_toArray]; unfold maxLen
      omega
    have HV := Hid.mk' (fun W => isVisible_any ⟨(Lib.trimS (s.extract (k + 1) s.size).data.toList Ch.ws).toArray⟩ W hzv)
    clear e1 e2 z2 hzv
    generalize s.extract (k + 1) s.size = rest at HC HTr HV h1
    have hdat : (⟨(Lib.trimS rest.data.toList Ch.ws).toArray⟩ : ByteArray).data.toList = Lib.trimS rest.data.toList Ch.ws := rfl
    rw [hdat] at HV
    clear hdat
    generalize s.extract 0 k = nm at HC HT HCl h1 z1
    have HO := Hid.mk' h1
    clear h1
    generalize Lib.trimS rest.data.toList Ch.ws = tv at HTr HV HO
    cases ht : Ch.isToken nm.data.toList
    · rw [ht] at HT
      have HR : Hid (Fd.of s.data.toList = Fd.bad 6) := by have := HO.out; rw [if_pos ht] at this; exact this
      clear HO ht HV HCl
      go_enter Tryd.func7, Tryd.ntmps7
      go_wp2_with fail
      refine (HC.out _).mono ?_
      rintro e w1 ⟨rfl, n, hw⟩
      have A1 : Hid (ResAt w w1) := by rw [hw]; exact (ResAt.made w _).drewN n
      clear hw HC
      go_wp2_with fail
      refine (HTr.out _).mono ?_
      rintro e w2 ⟨rfl, hb2⟩
      have A2 := Hid.mk' (A1.out.stay hb2)
      have c0 := A2.out.c0; have c1 := A2.out.c1; have f0 := A2.out.f0; have f1 := A2.out.f1
      clear A1 hb2 HTr
      go_wp2_with fail
      refine (HT.out _).mono ?_
      rintro e w3 ⟨rfl, hw⟩
      subst hw
      go_wp2
      refine bodyPost_ret (v := .tuple #[.agg #[.string ⟨#[]⟩, .string ⟨#[]⟩], .int .i64 6]) (by simp [results, Tryd.results7, go_sem, c0, c1]) rfl ⟨by rw [HR.out]; rfl, ?_⟩
      exact (A2.out.below.setCell (Nat.le_refl _) _).setCell (Nat.le_refl _) _
    · rw [ht] at HT
      have h6 := HO.out
      rw [if_neg (by rw [ht]; simp)] at h6
      have HO6 := Hid.mk' h6
      clear HO ht h6
      by_cases h40 : 40 < k
      · have HR : Hid (Fd.of s.data.toList = Fd.bad 4) := by have := HO6.out; rw [if_pos h40] at this; exact this
        have t40 : decide ((nm.size : Int) > 40) = true := by rw [decide_eq_true_eq]; omega
        clear HO6 HV HCl
        go_enter Tryd.func7, Tryd.ntmps7
        go_wp2_with fail
        refine (HC.out _).mono ?_
        rintro e w1 ⟨rfl, n, hw⟩
        have A1 : Hid (ResAt w w1) := by rw [hw]; exact (ResAt.made w _).drewN n
        clear hw HC
        go_wp2_with fail
        refine (HTr.out _).mono ?_
        rintro e w2 ⟨rfl, hb2⟩
        have A2 := Hid.mk' (A1.out.stay hb2)
        have c0 := A2.out.c0; have c1 := A2.out.c1; have f0 := A2.out.f0; have f1 := A2.out.f1
        clear A1 hb2 HTr
        go_wp2_with fail
        refine (HT.out _).mono ?_
        rintro e w3 ⟨rfl, hw⟩
        subst hw
        go_wp2
        refine bodyPost_ret (v := .tuple #[.agg #[.string ⟨#[]⟩, .string ⟨#[]⟩], .int .i64 4]) (by simp [results, Tryd.results7, go_sem, c0, c1]) rfl ⟨by rw [HR.out]; rfl, ?_⟩
        exact (A2.out.below.setCell (Nat.le_refl _) _).setCell (Nat.le_refl _) _
      · have h4 := HO6.out
        rw [if_neg h40] at h4
        have HO4 := Hid.mk' h4
        clear HO6 h4
        have t40 : decide ((nm.size : Int) > 40) = false := by rw [decide_eq_false_iff_not]; omega
        cases hv : Ch.isVisible tv
        · rw [hv] at HV
          have HR : Hid (Fd.of s.data.toList = Fd.bad 3) := by have := HO4.out; rw [if_pos hv] at this; exact this
          clear HO4 hv HCl
          go_enter Tryd.func7, Tryd.ntmps7
          go_wp2_with fail
          refine (HC.out _).mono ?_
          rintro e w1 ⟨rfl, n, hw⟩
          have A1 : Hid (ResAt w w1) := by rw [hw]; exact (ResAt.made w _).drewN n
          clear hw HC
          go_wp2_with fail
          refine (HTr.out _).mono ?_
          rintro e w2 ⟨rfl, hb2⟩
          have A2 := Hid.mk' (A1.out.stay hb2)
          have c0 := A2.out.c0; have c1 := A2.out.c1; have f0 := A2.out.f0; have f1 := A2.out.f1
          clear A1 hb2 HTr
          go_wp2_with fail
          refine (HT.out _).mono ?_
          rintro e w3 ⟨rfl, hw⟩
          subst hw
          go_wp2_with fail
          refine (HV.out _).mono ?_
          rintro e w4 ⟨rfl, hw⟩
          subst hw
          go_wp2
          refine bodyPost_ret (v := .tuple #[.agg #[.string ⟨#[]⟩, .string ⟨#[]⟩], .int .i64 3]) (by simp [results, Tryd.results7, go_sem, c0, c1]) rfl ⟨by rw [HR.out]; rfl, ?_⟩
          exact (A2.out.below.setCell (Nat.le_refl _) _).setCell (Nat.le_refl _) _
        · rw [hv] at HV
          have h3 := HO4.out
          rw [if_neg (by rw [hv]; simp)] at h3
          have HR := Hid.mk' h3
          clear HO4 hv h3
          go_enter Tryd.func7, Tryd.ntmps7
          go_wp2_with fail
          refine (HC.out _).mono ?_
          rintro e w1 ⟨rfl, n, hw⟩
          have A1 : Hid (ResAt w w1) := by rw [hw]; exact (ResAt.made w _).drewN n
          clear hw HC
          go_wp2_with fail
          refine (HTr.out _).mono ?_
          rintro e w2 ⟨rfl, hb2⟩
          have A2 := Hid.mk' (A1.out.stay hb2)
          clear A1 hb2 HTr
          go_wp2_with fail
          refine (HT.out _).mono ?_
          rintro e w3 ⟨rfl, hw⟩
          subst hw
          go_wp2_with fail
          refine (HV.out _).mono ?_
          rintro e w4 ⟨rfl, hw⟩
          subst hw
          go_wp2_with fail
          refine (HCl.out _).mono ?_
          rintro e w5 ⟨rfl, hb5⟩
          have A5 := Hid.mk' (A2.out.stay hb5)
          have c0 := A5.out.c0; have c1 := A5.out.c1; have f0 := A5.out.f0; have f1 := A5.out.f1
          clear A2 hb5
          go_wp2
          refine bodyPost_ret (v := .tuple #[.agg #[.string nm, .string ⟨tv.toArray⟩], .int .i64 0]) (by simp [results, Tryd.results7, go_sem, c0, c1]) rfl ⟨by rw [HR.out]; rfl, ?_⟩
          exact (A5.out.below.setCell (Nat.le_refl _) _).setCell (Nat.le_refl _) _
end Go.Proofs.YtenanljodjkonabDoor
