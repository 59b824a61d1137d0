/- Small texts, one behind the other: CsAllV, CsIsVis, FdParse, CkB. -/
import Derived.Test.YtbcmlolaihnalacGreatDoorPk2
import Derived.Test.YtbcmlolaihnalacGreatDoorPk8
import Derived.Deep.RegionHeld3
import Derived.Test.YtbcmlolaihnalacGreatDoorPk6
import Derived.Test.YtbcmlolaihnalacGreatDoorPk7
import Derived.Test.YtbcmlolaihnalacGreatDoorPk9
import Derived.Test.YtbcmlolaihnalacGreatDoorPk5
/- Package chars, walked: all, of Visible. -/
namespace Go.Proofs.YtbcmlolaihnalacGreatDoor
open Go.RowKit

set_option maxHeartbeats 400000 in
theorem all_visible (s : ByteArray) (w : World) (hs : s.size ≤ maxLen) :
    Calls Tryz.prog 62 #[.string s, .func (.func 68) #[] #[]] w fun e w' => e = .returned (.bool (Ch.isVisible s.data.toList)) ∧ w' = w := by
  unfold maxLen at hs
  go_enter Tryz.func62, Tryz.ntmps62
  go_wp2
  go_loop [8] (fun i => ∃ k : Nat, k ≤ s.size ∧ i = .int .i64 k ∧ ((s.data.toList.take k).all fun b => Ch.visible b.toNat) = true) (fun i => s.size - (intOf i).toNat)
  case atStart => exact ⟨0, Nat.zero_le _, rfl, rfl⟩
  case round =>
    obtain ⟨k, hk, rfl, hno⟩ := hrel
    have HN : Hid (((s.data.toList.take k).all fun b => Ch.visible b.toNat) = true) := hno
    clear hno
    by_cases hlt : k < s.size
    · cases he : Ch.visible (s[k].toNat : Int)
      · have HE : Hid (Ch.visible (s[k].toNat : Int) = false) := he
        go_wp2_with (go_at_call 68; refine (visible_any _ _).mono ?_; rintro e w' ⟨rfl, rfl⟩)
        go_ret
        refine ⟨ret_bool ?_, rfl⟩
        exact (Ch.all_of_take (fun b => Ch.visible b.toNat) s k hlt HE.out).symm
      · have HE : Hid (Ch.visible (s[k].toNat : Int) = true) := he
        go_wp2_with (go_at_call 68; refine (visible_any _ _).mono ?_; rintro e w' ⟨rfl, rfl⟩)
        go_round
        case rel => exact ⟨k + 1, by omega, by go_num, by rw [Ch.take_snoc s k hlt, Ch.all_snoc, HN.out, HE.out]; rfl⟩
        case measure => simp [intOf]; omega
    · go_wp2
      go_ret
      refine ⟨ret_bool ?_, rfl⟩
      rw [← HN.out, Ch.take_all s k (by omega)]
      rfl
end Go.Proofs.YtbcmlolaihnalacGreatDoor

/- Package chars, walked: IsVisible. -/
namespace Go.Proofs.YtbcmlolaihnalacGreatDoor
open Go.RowKit

set_option maxHeartbeats 400000 in
theorem isVisible_any (s : ByteArray) (w : World) (hs : s.size ≤ maxLen) :
    Calls Tryz.prog 52 #[.string s] w fun e w' => e = .returned (.bool (Ch.isVisible s.data.toList)) ∧ w' = w := by
  go_enter Tryz.func52, Tryz.ntmps52
  go_wp2_with (go_at_call 62; refine (all_visible _ _ hs).mono ?_; rintro e w' ⟨rfl, rfl⟩)
  go_ret
  exact ⟨rfl, rfl⟩
end Go.Proofs.YtbcmlolaihnalacGreatDoor

/- Package fields, walked: Parse. -/
namespace Go.Proofs.YtbcmlolaihnalacGreatDoor
open Go.RowKit

/-- a block of two empty texts that a call made first, to answer by -/
structure ResAt (w W : World) : Prop where
  c0 : W.cell? ⟨w.heap.size, 0, none⟩ = some (.string ⟨#[]⟩)
  c1 : W.cell? ⟨w.heap.size, 1, none⟩ = some (.string ⟨#[]⟩)
  f0 : W.frozen? ⟨w.heap.size, 0, none⟩ = false
  f1 : W.frozen? ⟨w.heap.size, 1, none⟩ = false
  below : Below w.heap.size w W
  lt : w.heap.size < W.heap.size
theorem ResAt.made (w : World) (t : Nat) : ResAt w (w.alloc (.cells #[.string ⟨#[]⟩, .string ⟨#[]⟩] t)) :=
  ⟨World.cell?_alloc_mark w _ _ _ 0, World.cell?_alloc_mark w _ _ _ 1, World.frozen?_alloc_mark w _ _ _ _ 0, World.frozen?_alloc_mark w _ _ _ _ 1, (Below.refl _ _).alloc (Nat.le_refl _) _, by simp⟩
theorem ResAt.stay {w W W' : World} (h : ResAt w W) (hb : Below W.heap.size W W') : ResAt w W' :=
  ⟨(hb.cell (p := ⟨w.heap.size, 0, none⟩) h.lt).trans h.c0, (hb.cell (p := ⟨w.heap.size, 1, none⟩) h.lt).trans h.c1, (hb.frozen (p := ⟨w.heap.size, 0, none⟩) h.lt).trans h.f0, (hb.frozen (p := ⟨w.heap.size, 1, none⟩) h.lt).trans h.f1, then_ h.below hb, Nat.lt_of_lt_of_le h.lt hb.size⟩
theorem ResAt.drewN {w W : World} (h : ResAt w W) (n : Nat) : ResAt w (W.drewN n) := h.stay (drewN_below ⟨n, rfl⟩)

set_option maxHeartbeats 1600000 in
theorem parse_any (s : ByteArray) (w : World) (hs : s.size ≤ 2000) :
    Calls Tryz.prog 73 #[.string s] w fun e w' => e = .returned (Fd.val (Fd.of s.data.toList)) ∧ Below w.heap.size w w' := by
  have HC := Hid.mk' (fun W => cut_one s 58 W (by unfold maxLen; omega))
  have hl : s.data.toList.length = s.size := by rw [Array.length_toList]; rfl
  have HO := Hid.mk' (Fd.of_trim s.data.toList)
  rw [hl] at HO
  unfold Fd.cutV at HC
  by_cases h0 : Fd.at_ 58 s.data.toList = s.size
  · rw [if_pos h0] at HC
    have HR : Hid (Fd.of s.data.toList = Fd.bad 5) := by have := HO.out; rw [if_pos h0] at this; exact this
    clear HO h0 hl
    go_enter Tryz.func73, Tryz.ntmps73
    go_wp2_with fail
    refine (HC.out _).mono ?_
    rintro e w1 ⟨rfl, n, hw⟩
    have A1 : Hid (ResAt w w1) := by rw [hw]; exact (ResAt.made w _).drewN n
    clear hw HC
    go_wp2_with fail
    refine (trim_any ⟨#[]⟩ w1 (by decide)).mono ?_
    rintro e w2 ⟨rfl, hb2⟩
    have A2 := Hid.mk' (A1.out.stay hb2)
    have c0 := A2.out.c0; have c1 := A2.out.c1; have f0 := A2.out.f0; have f1 := A2.out.f1
    clear A1 hb2
    go_wp2
    refine bodyPost_ret (v := .tuple #[.agg #[.string ⟨#[]⟩, .string ⟨#[]⟩], .int .i64 5]) (by simp [results, Tryz.results73, go_sem, c0, c1]) rfl ⟨by rw [HR.out]; rfl, ?_⟩
    exact (A2.out.below.setCell (Nat.le_refl _) _).setCell (Nat.le_refl _) _
  · rw [if_neg h0] at HC
    have hk := Fd.at_le 58 s.data.toList
    rw [hl] at hk
    have h1 := HO.out
    rw [if_neg h0] at h1
    have hlt : Fd.at_ 58 s.data.toList < s.size := by omega
    clear HO h0 hl hk
    generalize Fd.at_ 58 s.data.toList = k at HC h1 hlt
    have e1 : (s.extract 0 k).data.toList = s.data.toList.take k := by rw [Lib.extract_data]; simp
    have e2 : (s.extract (k + 1) s.size).data.toList = s.data.toList.drop (k + 1) := Lib.extract_to_end s (k + 1)
    rw [← e1, ← e2] at h1
    have z1 : (s.extract 0 k).size = k := by simp; omega
    have z2 : (s.extract (k + 1) s.size).size ≤ 2000 := by simp; omega
    have HT := Hid.mk' (fun W => isToken_any (s.extract 0 k) W (by rw [z1]; unfold maxLen; omega))
    have HTr := Hid.mk' (fun W => trim_any (s.extract (k + 1) s.size) W z2)
    have HCl := Hid.mk' (fun W => sclone_any (s.extract 0 k) W (by omega))
    have hzv : (⟨(Lib.trimS (s.extract (k + 1) s.size).data.toList Ch.ws).toArray⟩ : ByteArray).size ≤ maxLen := by
      have h1 := trimS_le (s.extract (k + 1) s.size).data.toList
      rw [Ch.len_list] at h1
      show (Lib.trimS _ Ch.ws).toArray.size ≤ maxLen
      rw [List.size_toArray]; unfold maxLen
      omega
    have HV := Hid.mk' (fun W => isVisible_any ⟨(Lib.trimS (s.extract (k + 1) s.size).data.toList Ch.ws).toArray⟩ W hzv)
    clear e1 e2 z2 hzv
    generalize s.extract (k + 1) s.size = rest at HC HTr HV h1
    have hdat : (⟨(Lib.trimS rest.data.toList Ch.ws).toArray⟩ : ByteArray).data.toList = Lib.trimS rest.data.toList Ch.ws := rfl
    rw [hdat] at HV
    clear hdat
    generalize s.extract 0 k = nm at HC HT HCl h1 z1
    have HO := Hid.mk' h1
    clear h1
    generalize Lib.trimS rest.data.toList Ch.ws = tv at HTr HV HO
    cases ht : Ch.isToken nm.data.toList
    · rw [ht] at HT
      have HR : Hid (Fd.of s.data.toList = Fd.bad 6) := by have := HO.out; rw [if_pos ht] at this; exact this
      clear HO ht HV HCl
      go_enter Tryz.func73, Tryz.ntmps73
      go_wp2_with fail
      refine (HC.out _).mono ?_
      rintro e w1 ⟨rfl, n, hw⟩
      have A1 : Hid (ResAt w w1) := by rw [hw]; exact (ResAt.made w _).drewN n
      clear hw HC
      go_wp2_with fail
      refine (HTr.out _).mono ?_
      rintro e w2 ⟨rfl, hb2⟩
      have A2 := Hid.mk' (A1.out.stay hb2)
      have c0 := A2.out.c0; have c1 := A2.out.c1; have f0 := A2.out.f0; have f1 := A2.out.f1
      clear A1 hb2 HTr
      go_wp2_with fail
      refine (HT.out _).mono ?_
      rintro e w3 ⟨rfl, hw⟩
      subst hw
      go_wp2
      refine bodyPost_ret (v := .tuple #[.agg #[.string ⟨#[]⟩, .string ⟨#[]⟩], .int .i64 6]) (by simp [results, Tryz.results73, go_sem, c0, c1]) rfl ⟨by rw [HR.out]; rfl, ?_⟩
      exact (A2.out.below.setCell (Nat.le_refl _) _).setCell (Nat.le_refl _) _
    · rw [ht] at HT
      have h6 := HO.out
      rw [if_neg (by rw [ht]; simp)] at h6
      have HO6 := Hid.mk' h6
      clear HO ht h6
      by_cases h40 : 40 < k
      · have HR : Hid (Fd.of s.data.toList = Fd.bad 4) := by have := HO6.out; rw [if_pos h40] at this; exact this
        have t40 : decide ((nm.size : Int) > 40) = true := by rw [decide_eq_true_eq]; omega
        clear HO6 HV HCl
        go_enter Tryz.func73, Tryz.ntmps73
        go_wp2_with fail
        refine (HC.out _).mono ?_
        rintro e w1 ⟨rfl, n, hw⟩
        have A1 : Hid (ResAt w w1) := by rw [hw]; exact (ResAt.made w _).drewN n
        clear hw HC
        go_wp2_with fail
        refine (HTr.out _).mono ?_
        rintro e w2 ⟨rfl, hb2⟩
        have A2 := Hid.mk' (A1.out.stay hb2)
        have c0 := A2.out.c0; have c1 := A2.out.c1; have f0 := A2.out.f0; have f1 := A2.out.f1
        clear A1 hb2 HTr
        go_wp2_with fail
        refine (HT.out _).mono ?_
        rintro e w3 ⟨rfl, hw⟩
        subst hw
        go_wp2
        refine bodyPost_ret (v := .tuple #[.agg #[.string ⟨#[]⟩, .string ⟨#[]⟩], .int .i64 4]) (by simp [results, Tryz.results73, go_sem, c0, c1]) rfl ⟨by rw [HR.out]; rfl, ?_⟩
        exact (A2.out.below.setCell (Nat.le_refl _) _).setCell (Nat.le_refl _) _
      · have h4 := HO6.out
        rw [if_neg h40] at h4
        have HO4 := Hid.mk' h4
        clear HO6 h4
        have t40 : decide ((nm.size : Int) > 40) = false := by rw [decide_eq_false_iff_not]; omega
        cases hv : Ch.isVisible tv
        · rw [hv] at HV
          have HR : Hid (Fd.of s.data.toList = Fd.bad 3) := by have := HO4.out; rw [if_pos hv] at this; exact this
          clear HO4 hv HCl
          go_enter Tryz.func73, Tryz.ntmps73
          go_wp2_with fail
          refine (HC.out _).mono ?_
          rintro e w1 ⟨rfl, n, hw⟩
          have A1 : Hid (ResAt w w1) := by rw [hw]; exact (ResAt.made w _).drewN n
          clear hw HC
          go_wp2_with fail
          refine (HTr.out _).mono ?_
          rintro e w2 ⟨rfl, hb2⟩
          have A2 := Hid.mk' (A1.out.stay hb2)
          have c0 := A2.out.c0; have c1 := A2.out.c1; have f0 := A2.out.f0; have f1 := A2.out.f1
          clear A1 hb2 HTr
          go_wp2_with fail
          refine (HT.out _).mono ?_
          rintro e w3 ⟨rfl, hw⟩
          subst hw
          go_wp2_with fail
          refine (HV.out _).mono ?_
          rintro e w4 ⟨rfl, hw⟩
          subst hw
          go_wp2
          refine bodyPost_ret (v := .tuple #[.agg #[.string ⟨#[]⟩, .string ⟨#[]⟩], .int .i64 3]) (by simp [results, Tryz.results73, go_sem, c0, c1]) rfl ⟨by rw [HR.out]; rfl, ?_⟩
          exact (A2.out.below.setCell (Nat.le_refl _) _).setCell (Nat.le_refl _) _
        · rw [hv] at HV
          have h3 := HO4.out
          rw [if_neg (by rw [hv]; simp)] at h3
          have HR := Hid.mk' h3
          clear HO4 hv h3
          go_enter Tryz.func73, Tryz.ntmps73
          go_wp2_with fail
          refine (HC.out _).mono ?_
          rintro e w1 ⟨rfl, n, hw⟩
          have A1 : Hid (ResAt w w1) := by rw [hw]; exact (ResAt.made w _).drewN n
          clear hw HC
          go_wp2_with fail
          refine (HTr.out _).mono ?_
          rintro e w2 ⟨rfl, hb2⟩
          have A2 := Hid.mk' (A1.out.stay hb2)
          clear A1 hb2 HTr
          go_wp2_with fail
          refine (HT.out _).mono ?_
          rintro e w3 ⟨rfl, hw⟩
          subst hw
          go_wp2_with fail
          refine (HV.out _).mono ?_
          rintro e w4 ⟨rfl, hw⟩
          subst hw
          go_wp2_with fail
          refine (HCl.out _).mono ?_
          rintro e w5 ⟨rfl, hb5⟩
          have A5 := Hid.mk' (A2.out.stay hb5)
          have c0 := A5.out.c0; have c1 := A5.out.c1; have f0 := A5.out.f0; have f1 := A5.out.f1
          clear A2 hb5
          go_wp2
          refine bodyPost_ret (v := .tuple #[.agg #[.string nm, .string ⟨tv.toArray⟩], .int .i64 0]) (by simp [results, Tryz.results73, go_sem, c0, c1]) rfl ⟨by rw [HR.out]; rfl, ?_⟩
          exact (A5.out.below.setCell (Nat.le_refl _) _).setCell (Nat.le_refl _) _
end Go.Proofs.YtbcmlolaihnalacGreatDoor

/- What a reader of a body in chunks makes of a line: size, end, field, take, walked. -/
namespace Go.Proofs.YtbcmlolaihnalacGreatDoor
open Go.RowKit

theorem cut_ahead (c : UInt8) (s : ByteArray) : ∃ a r b, Fd.cutV c s = .tuple #[.string a, .string r, .bool b] ∧ a.data.toList = s.data.toList.take (Fd.at_ c s.data.toList) ∧ a.size ≤ s.size := by
  have hl : s.data.toList.length = s.size := by rw [Array.length_toList]; rfl
  unfold Fd.cutV
  by_cases h : Fd.at_ c s.data.toList = s.size
  · rw [if_pos h]
    exact ⟨s, _, _, rfl, by rw [h, ← hl, List.take_length], Nat.le_refl _⟩
  · rw [if_neg h]
    exact ⟨_, _, _, rfl, by rw [Lib.extract_data]; simp, by simp; omega⟩
/-- what a line with a size comes to: n the number, ok is it one -/
inductive SizeOut (S : Nat → Prop) (g gl : Nat) (nx lf rm fd code : Int) (ln : Ln.St) (n : Int) (ok : Bool) (w : World) (e : Ending) (w' : World) : Prop
  | none (t : Turns S w w') (h : ok = false) (he : e = .returned (.int .i64 7)) (r : CkRow w' S g gl nx lf rm fd code ln)
  | long (t : Turns S w w') (h : ok = true) (h1 : rm < n) (he : e = .returned (.int .i64 4)) (r : CkRow w' S g gl nx lf rm fd code ln)
  | last (t : Turns S w w') (h : ok = true) (h1 : n ≤ rm) (h2 : n = 0) (he : e = .returned (.int .i64 0)) (r : CkRow w' S g gl 2 lf rm fd code ln)
  | more (t : Turns S w w') (h : ok = true) (h1 : n ≤ rm) (h2 : 0 < n) (he : e = .returned (.int .i64 0)) (r : CkRow w' S g gl 1 n (rm - n) fd code ln)
/-- what the line behind a chunk's bytes comes to -/
inductive EndOut (S : Nat → Prop) (g gl : Nat) (nx lf rm fd code : Int) (ln : Ln.St) (s : List UInt8) (w : World) (e : Ending) (w' : World) : Prop
  | bad (t : Turns S w w') (h : s ≠ []) (he : e = .returned (.int .i64 5)) (r : CkRow w' S g gl nx lf rm fd code ln)
  | good (t : Turns S w w') (h : s = []) (he : e = .returned (.int .i64 0)) (r : CkRow w' S g gl 0 lf rm fd code ln)
/-- what a line behind the last chunk comes to -/
inductive FieldOut (S : Nat → Prop) (g gl : Nat) (nx lf rm fd code : Int) (ln : Ln.St) (s : List UInt8) (w : World) (e : Ending) (w' : World) : Prop
  | many (t : Turns S w w') (h : fd = 16) (he : e = .returned (.int .i64 8)) (r : CkRow w' S g gl nx lf rm fd code ln)
  | one (t : Turns S w w') (h : fd ≠ 16) (he : e = .returned (.int .i64 ((Fd.of s).code : Int))) (r : CkRow w' S g gl nx lf rm (fd + 1) code ln)

section
variable {w : World} {S : Nat → Prop} {g gl : Nat} {nx lf rm fd code : Int} {ln : Ln.St}
set_option maxHeartbeats 1600000 in
theorem sizeCk_any (h : CkRow w S g gl nx lf rm fd code ln) (s : ByteArray) (hs : s.size ≤ 200) (hr0 : 0 ≤ rm) (hr1 : rm ≤ 4000) :
    Calls Tryz.prog 144 #[.pointer (some ⟨g, 0, none⟩), .string s] w fun e w' => SizeOut S g gl nx lf rm fd code ln (Ck.size s.data.toList).1 (Ck.size s.data.toList).2 w e w' := by
  obtain ⟨n0, n1⟩ := size_nat s.data.toList
  obtain ⟨a, r, b, hcv, ha, haz⟩ := cut_ahead 59 s
  have HC := Hid.mk' (cut_one s 59 w (by unfold maxLen; omega))
  rw [hcv] at HC
  have HT := Hid.mk' (fun W => trim_any a W (by omega))
  have hsz : Ck.size s.data.toList = Ch.number 16 6 (Lib.trimS a.data.toList Ch.ws) := by unfold Ck.size; rw [ha]
  have htl := trimS_le a.data.toList
  rw [Ch.len_list] at htl
  have HN := Hid.mk' (fun W => number16_any ⟨(Lib.trimS a.data.toList Ch.ws).toArray⟩ W (by show (Lib.trimS _ _).toArray.size ≤ maxLen; rw [List.size_toArray]; unfold maxLen; omega))
  have hdat : (⟨(Lib.trimS a.data.toList Ch.ws).toArray⟩ : ByteArray).data.toList = Lib.trimS a.data.toList Ch.ws := rfl
  rw [hdat, ← hsz] at HN
  have HR := Hid.mk' h
  clear h hcv ha hsz hdat htl
  generalize (⟨(Lib.trimS a.data.toList Ch.ws).toArray⟩ : ByteArray) = tv at HT HN
  generalize (Ck.size s.data.toList).1 = n at *
  generalize (Ck.size s.data.toList).2 = ok at *
  cases ok
  · go_enter Tryz.func144, Tryz.ntmps144
    go_wp2_with fail
    refine HC.out.mono ?_
    rintro e w1 ⟨rfl, hd⟩
    have B1 := Hid.mk' (drewN_below hd)
    clear hd HC
    go_wp2_with fail
    refine (HT.out _).mono ?_
    rintro e w2 ⟨rfl, hb2⟩
    have B2 := Hid.mk' (then_ B1.out hb2)
    clear hb2 B1 HT
    go_wp2_with fail
    refine (HN.out _).mono ?_
    rintro e w3 ⟨rfl, hw⟩
    subst hw
    go_wp2
    go_ret
    exact .none (Turns.of_below B2.out) rfl rfl (HR.out.stay B2.out)
  · by_cases h4 : rm < n
    · have t4 : decide (n > rm) = true := decide_eq_true h4
      go_enter Tryz.func144, Tryz.ntmps144
      go_wp2_with fail
      refine HC.out.mono ?_
      rintro e w1 ⟨rfl, hd⟩
      have B1 := Hid.mk' (drewN_below hd)
      clear hd HC
      go_wp2_with fail
      refine (HT.out _).mono ?_
      rintro e w2 ⟨rfl, hb2⟩
      have B2 := Hid.mk' (then_ B1.out hb2)
      have R2 := Hid.mk' (HR.out.stay B2.out)
      clear hb2 B1 HT HR
      have c3 : w2.cell? ⟨g, 3, none⟩ = some (.int .i64 rm) := R2.out.cell 3 (by decide)
      go_wp2_with fail
      refine (HN.out _).mono ?_
      rintro e w3 ⟨rfl, hw⟩
      subst hw
      go_wp2
      go_ret
      exact .long (Turns.of_below B2.out) rfl h4 rfl R2.out
    · have t4 : decide (n > rm) = false := decide_eq_false h4
      by_cases hz : n = 0
      · subst hz
        go_enter Tryz.func144, Tryz.ntmps144
        go_wp2_with fail
        refine HC.out.mono ?_
        rintro e w1 ⟨rfl, hd⟩
        have B1 := Hid.mk' (drewN_below hd)
        clear hd HC
        go_wp2_with fail
        refine (HT.out _).mono ?_
        rintro e w2 ⟨rfl, hb2⟩
        have B2 := Hid.mk' (then_ B1.out hb2)
        have R2 := Hid.mk' (HR.out.stay B2.out)
        clear hb2 B1 HT HR
        have c3 : w2.cell? ⟨g, 3, none⟩ = some (.int .i64 rm) := R2.out.cell 3 (by decide)
        have c1 : w2.cell? ⟨g, 1, none⟩ = some (.int .i64 nx) := R2.out.cell 1 (by decide)
        have f1 : w2.frozen? ⟨g, 1, none⟩ = false := R2.out.frozen 1
        go_wp2_with fail
        refine (HN.out _).mono ?_
        rintro e w3 ⟨rfl, hw⟩
        subst hw
        go_wp2
        go_ret
        exact .last ((Turns.of_below B2.out).trans (R2.out.turn 1 _) (fun _ e _ => e)) rfl hr0 rfl rfl (R2.out.next 2)
      · have tz : (n == 0) = false := beq_eq_false_iff_ne.2 hz
        go_enter Tryz.func144, Tryz.ntmps144
        go_wp2_with fail
        refine HC.out.mono ?_
        rintro e w1 ⟨rfl, hd⟩
        have B1 := Hid.mk' (drewN_below hd)
        clear hd HC
        go_wp2_with fail
        refine (HT.out _).mono ?_
        rintro e w2 ⟨rfl, hb2⟩
        have B2 := Hid.mk' (then_ B1.out hb2)
        have R2 := Hid.mk' (HR.out.stay B2.out)
        clear hb2 B1 HT HR
        have c3 : w2.cell? ⟨g, 3, none⟩ = some (.int .i64 rm) := R2.out.cell 3 (by decide)
        have c1 : w2.cell? ⟨g, 1, none⟩ = some (.int .i64 nx) := R2.out.cell 1 (by decide)
        have c2 : w2.cell? ⟨g, 2, none⟩ = some (.int .i64 lf) := R2.out.cell 2 (by decide)
        have f1 : w2.frozen? ⟨g, 1, none⟩ = false := R2.out.frozen 1
        have f2 : w2.frozen? ⟨g, 2, none⟩ = false := R2.out.frozen 2
        have f3 : w2.frozen? ⟨g, 3, none⟩ = false := R2.out.frozen 3
        go_wp2_with fail
        refine (HN.out _).mono ?_
        rintro e w3 ⟨rfl, hw⟩
        subst hw
        go_wp2
        go_ret
        exact .more ((Turns.of_below B2.out).trans ((R2.out.turn 1 _).trans (((R2.out.next 1).turn 2 _).trans (((R2.out.next 1).left n).turn 3 _) (fun _ e _ => e)) (fun _ e _ => e)) (fun _ e _ => e)) rfl (by omega) (by omega) rfl (((R2.out.next 1).left n).room (rm - n))

theorem endCk_any (h : CkRow w S g gl nx lf rm fd code ln) (s : ByteArray) :
    Calls Tryz.prog 145 #[.pointer (some ⟨g, 0, none⟩), .string s] w fun e w' => EndOut S g gl nx lf rm fd code ln s.data.toList w e w' := by
  have HR := Hid.mk' h
  have c1 : w.cell? ⟨g, 1, none⟩ = some (.int .i64 nx) := h.cell 1 (by decide)
  have f1 : w.frozen? ⟨g, 1, none⟩ = false := h.frozen 1
  clear h
  have HL := Hid.mk' (Lib.toList_data s)
  by_cases hz : s.data.toList = []
  · obtain rfl : s = ⟨#[]⟩ := Ch.empty_eq s (by rw [← Ch.len_list, hz]; rfl)
    clear hz HL
    go_enter Tryz.func145, Tryz.ntmps145
    go_wp2
    go_ret
    exact .good (HR.out.turn 1 _) rfl rfl (HR.out.next 0)
  · have tz : (s.toList == []) = false := by rw [beq_eq_false_iff_ne, HL.out]; exact hz
    have HZ := Hid.mk' hz
    clear hz
    go_enter Tryz.func145, Tryz.ntmps145
    go_wp2
    go_ret
    exact .bad (Turns.refl _ _) HZ.out rfl HR.out

set_option maxHeartbeats 800000 in
theorem fieldCk_any (h : CkRow w S g gl nx lf rm fd code ln) (s : ByteArray) (hs : s.size ≤ 200) (hf0 : 0 ≤ fd) (hf1 : fd ≤ 16) :
    Calls Tryz.prog 146 #[.pointer (some ⟨g, 0, none⟩), .string s] w fun e w' => FieldOut S g gl nx lf rm fd code ln s.data.toList w e w' := by
  have HR := Hid.mk' h
  have c4 : w.cell? ⟨g, 4, none⟩ = some (.int .i64 fd) := h.cell 4 (by decide)
  have f4 : w.frozen? ⟨g, 4, none⟩ = false := h.frozen 4
  have HP := Hid.mk' (fun W => parse_any s W (by omega))
  unfold Fd.val at HP
  have HR4 := Hid.mk' (h.fields (fd + 1))
  have HT4 := Hid.mk' (h.turn 4 (.int .i64 (fd + 1)))
  clear h
  by_cases h16 : fd = 16
  · subst h16
    go_enter Tryz.func146, Tryz.ntmps146
    go_wp2
    go_ret
    exact .many (Turns.refl _ _) rfl rfl HR.out
  · have t16 : (fd == 16) = false := beq_eq_false_iff_ne.2 h16
    generalize (⟨(Fd.of s.data.toList).name.toArray⟩ : ByteArray) = nm at HP
    generalize (⟨(Fd.of s.data.toList).value.toArray⟩ : ByteArray) = vl at HP
    generalize hk : (Fd.of s.data.toList).code = k at HP
    have HK := Hid.mk' hk
    clear hk
    go_enter Tryz.func146, Tryz.ntmps146
    go_wp2_with fail
    refine (HP.out _).mono ?_
    rintro e w1 ⟨rfl, hb1⟩
    have B1 := Hid.mk' hb1
    clear hb1 HP
    go_wp2
    go_ret
    have hb2 := B1.out.alloc B1.out.size (.cells #[.string nm, .string vl] 43)
    exact .one (HT4.out.trans (Turns.of_below hb2) (fun _ e _ => e)) h16 (by rw [HK.out]; rfl) (HR4.out.stay hb2)
end
end Go.Proofs.YtbcmlolaihnalacGreatDoor
