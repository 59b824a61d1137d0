/- Nothing is lost: SeekWhole, walked. -/
import Derived.Test.YtkncgfknmccfeaaSeekW
namespace Go.Proofs.Ytkncgfknmccfeaa
open Go.RowKit

theorem whole_long1 (am ab : Option Addr) (n1 n2 capm capb : Nat) (w : World) (h : 60 < n1) :
    Calls Try.prog 4 #[.slice am n1 capm, .slice ab n2 capb] w fun e w' => e = .returned (.bool true) ∧ Below w.heap.size w w' := by
  go_enter Try.func4, Try.ntmps4
  go_wp2_with fail
  refine (begun_any _).mono ?_
  rintro e w1 ⟨rfl, hb1⟩
  go_wp2
  go_ret
  exact ⟨rfl, hb1⟩
theorem whole_long2 (am ab : Option Addr) (n1 n2 capm capb : Nat) (w : World) (h1 : n1 ≤ 60) (h : 1000 < n2) :
    Calls Try.prog 4 #[.slice am n1 capm, .slice ab n2 capb] w fun e w' => e = .returned (.bool true) ∧ Below w.heap.size w w' := by
  have t1 : decide ((n1 : Int) > 60) = false := by rw [decide_eq_false_iff_not]; omega
  go_enter Try.func4, Try.ntmps4
  go_wp2_with fail
  refine (begun_any _).mono ?_
  rintro e w1 ⟨rfl, hb1⟩
  go_wp2
  go_ret
  exact ⟨rfl, hb1⟩

/-- an append of the call's own, from hi on -/
theorem below_append {w w' : World} {hi t : Nat} {ao : Option Addr} {cap : Nat} {l : List UInt8} (h : OwnB w hi t ao cap l) (hg : w.grownBy w' (blockOf ao)) (hs : hi ≤ w.heap.size) : Below hi w w' :=
  (Below.refl _ _).grown hg hs (fun k e => by
    cases ao with
    | none => simp [blockOf] at e
    | some a => simp only [blockOf, Option.some.injEq] at e; have := (h.block a rfl).1; omega)
theorem own_seek {w w' : World} {hi t g : Nat} {ao : Option Addr} {cap : Nat} {l : List UInt8} (h : OwnB w hi t ao cap l) (hg : w.grownBy w' (some g)) (hgl : g < hi) : OwnB w' hi t ao cap l :=
  h.kept hg (fun a e => by have := (h.block a e).1; intro e2; injection e2 with e2; omega)

/-- two slices of the call's own beside a looker -/
structure Two (w : World) (lo hi g : Nat) (m : List UInt8) (h : Nat) (l1 l2 : List UInt8) (a1 : Option Addr) (c1 : Nat) (a2 : Option Addr) (c2 : Nat) (wr : World) : Prop where
  one : OwnB wr hi 5 a1 c1 l1
  two : OwnB wr hi 5 a2 c2 l2
  apart : Apart a1 a2
  seek : SeekAt wr lo hi g m h
  below : Below w.heap.size w wr
  size : hi ≤ wr.heap.size
  lo_ : w.heap.size ≤ lo
section
variable {w wr w' : World} {lo hi g : Nat} {m : List UInt8} {h : Nat} {l1 l2 : List UInt8} {a1 : Option Addr} {c1 : Nat} {a2 : Option Addr} {c2 : Nat}
theorem Two.feed {h' : Nat} (T : Two w lo hi g m h l1 l2 a1 c1 a2 c2 wr) (hS : SeekAt w' lo hi g m h') (hG : wr.grownBy w' (some g)) : Two w lo hi g m h' l1 l2 a1 c1 a2 c2 w' := by
  have hb := hS.bounds
  have hl := T.lo_
  exact ⟨own_seek T.one hG hb.2, own_seek T.two hG hb.2, T.apart, hS, T.below.grown hG T.below.size (fun k e => by injection e with e; omega), Nat.le_trans T.size hG.size, T.lo_⟩
theorem Two.fst {l1' : List UInt8} {a1' : Option Addr} {c1' : Nat} (T : Two w lo hi g m h l1 l2 a1 c1 a2 c2 wr) (hO : OwnB w' hi 5 a1' c1' l1') (hG : wr.grownBy w' (blockOf a1)) (hat : blockOf a1' = blockOf a1 ∨ blockOf a1' = some wr.heap.size) : Two w lo hi g m h l1' l2 a1' c1' a2 c2 w' := by
  have hb := T.seek.bounds
  have hl := T.lo_
  have hB := below_append T.one hG T.size
  exact ⟨hO, T.two.apart hG T.apart.symm, T.apart.grown hat (fun y e => (T.two.block y e).2), T.seek.below hB (Nat.le_refl _), T.below.trans (hB.mono (by omega)), Nat.le_trans T.size hG.size, T.lo_⟩
theorem Two.swap (T : Two w lo hi g m h l1 l2 a1 c1 a2 c2 wr) : Two w lo hi g m h l2 l1 a2 c2 a1 c1 wr := ⟨T.two, T.one, T.apart.symm, T.seek, T.below, T.size, T.lo_⟩
theorem Two.snd {l2' : List UInt8} {a2' : Option Addr} {c2' : Nat} (T : Two w lo hi g m h l1 l2 a1 c1 a2 c2 wr) (hO : OwnB w' hi 5 a2' c2' l2') (hG : wr.grownBy w' (blockOf a2)) (hat : blockOf a2' = blockOf a2 ∨ blockOf a2' = some wr.heap.size) : Two w lo hi g m h l1 l2' a1 c1 a2' c2' w' :=
  (T.swap.fst hO hG hat).swap
theorem Two.drop (T : Two w lo hi g m h l1 l2 a1 c1 a2 c2 wr) : Two w lo hi g m h l1 [] a1 c1 none 0 wr := ⟨T.one, OwnB.nil _ _ _, apart_none' _, T.seek, T.below, T.size, T.lo_⟩
/-- what a call made stays while the first of the two grows -/
theorem Two.other {l : List UInt8} {a : Option Addr} {c : Nat} {W : World} (T0 : Two w lo hi g m h l1 l2 a1 c1 a2 c2 wr) (hO : OwnB W wr.heap.size 5 a c l) (hG : W.grownBy w' (blockOf a1)) : IsB w' a c l :=
  hO.isB.grown hG (fun y e => by
    have h3 := (hO.block y e).1
    cases a1 with
    | none => simp [blockOf]
    | some z =>
      have h4 := (T0.one.block z rfl).2
      simp only [blockOf]
      intro e2
      injection e2 with e2
      omega)
end

/-- the loop's relation -/
def WholeRel (w : World) (lo hi g : Nat) (m b : List UInt8) (i : Nat) (va vp : Value) (wr : World) : Prop :=
  ∃ x all part aoa capa aop capp, va = .slice aoa all.length capa ∧ vp = .slice aop part.length capp ∧ Two w lo hi g m (Sk.held m x) all part aoa capa aop capp wr ∧ WholeInv m b i x all part

set_option maxHeartbeats 4000000 in
theorem whole_main (m b : List UInt8) (am ab : Option Addr) (capm capb : Nat) (w : World) (hm : IsB w am capm m) (hb : IsB w ab capb b) (h1 : m.length ≤ 60) (h2 : b.length ≤ 1000) :
    Calls Try.prog 4 #[.slice am m.length capm, .slice ab b.length capb] w fun e w' => e = .returned (.bool true) ∧ Below w.heap.size w w' := by
  have t1 : decide ((m.length : Int) > 60) = false := by rw [decide_eq_false_iff_not]; omega
  have t2 : decide ((b.length : Int) > 1000) = false := by rw [decide_eq_false_iff_not]; omega
  have HM := Hid.mk' hm
  have HB := Hid.mk' hb
  obtain ⟨i0, hi0, hz0, hz1, hz2⟩ := info_parts info_u8
  have Hi := Hid.mk' hi0; have Hz0 := Hid.mk' hz0; have Hz1 := Hid.mk' hz1; have Hz2 := Hid.mk' hz2
  obtain ⟨ms, hms⟩ : ∃ ms : ByteArray, ms = ⟨m.toArray⟩ := ⟨_, rfl⟩
  have HQ : Hid (∀ W, Below w.heap.size w W → (convert 22 9 (.slice am m.length capm)).run Try.prog W = .ok (.string ms) W) := fun W hW => by
    rw [hms]
    exact (HM.out.stay hW).str (P := Try.prog) 22 9 5 Try.underlying22 Try.underlying5 Try.underlying9
  have HMs : Hid (ms.data.toList = m ∧ ms.size = m.length) := by rw [hms]; exact ⟨rfl, rfl⟩
  clear hm hb hi0 hz0 hz1 hz2 hms
  go_enter Try.func4, Try.ntmps4
  go_wp2_with fail
  refine (begun_any _).mono ?_
  rintro e w1 ⟨rfl, hb1⟩
  have HN := Hid.mk' (new_any m am capm w1 (HM.out.stay hb1) (by omega))
  have B1 := Hid.mk' hb1
  clear hb1
  go_wp2_with fail
  refine HN.out.mono ?_
  rintro e w2 ⟨g, rfl, hS, hb2⟩
  have B2 := Hid.mk' (B1.out.trans (hb2.mono B1.out.size))
  have HR : Hid (WholeRel w w1.heap.size w2.heap.size g m b 0 (.slice none 0 0) (.slice none 0 0) w2) :=
    ⟨[], [], [], none, 0, none, 0, rfl, rfl, ⟨OwnB.nil _ _ _, OwnB.nil _ _ _, apart_none _, by rw [Sk.held_nil]; exact hS, B2.out, Nat.le_refl _, B1.out.size⟩, WholeInv.start m b⟩
  clear HN hS hb2 B2 B1
  generalize w1.heap.size = lo at HR
  generalize w2.heap.size = hi at HR
  go_wp2
  go_loopw [6, 7, 8] (fun va vp t wr => ∃ i : Nat, i ≤ b.length ∧ t = .int .i64 i ∧ WholeRel w lo hi g m b i va vp wr) (fun _ _ t _ => b.length - (intOf t).toNat)
  case atStart => exact ⟨0, Nat.zero_le _, rfl, HR.out⟩
  case round =>
    clear HR
    obtain ⟨i, hib, rfl, x, all, part, aoa, capa, aop, capp, rfl, rfl, hT, hI⟩ := hrel
    have hbd := hI.bounds
    have HT := Hid.mk' hT; have HI := Hid.mk' hI
    clear hT hI
    by_cases hlt : i < b.length
    · obtain ⟨a, rfl⟩ := HB.out.some (by omega)
      have hcell := (HB.out.stay HT.out.below).cell i hlt
      have hlt' : (i : Int) < b.length := by omega
      obtain ⟨c, hc⟩ : ∃ c, b[i] = c := ⟨_, rfl⟩
      rw [hc] at hcell
      have HF := Hid.mk' (feed_any wr lo hi g m (Sk.held m x) c HT.out.seek (Sk.held_le m x) (by omega) HT.out.size)
      have hol : (Sk.out m (Sk.held m x) c).length ≤ 61 := by
        unfold Sk.out
        have := Sk.held_le m x
        rw [List.length_take]; omega
      cases hfd : Sk.found m (Sk.held m x) c
      · have hno := HI.out.no hlt (by rw [hc]; exact hfd)
        rw [hc] at hno
        rw [hfd] at HF
        have HN := Hid.mk' hno
        clear hno hfd hc
        generalize Sk.out m (Sk.held m x) c = o at HF HN hol
        generalize Sk.after m (Sk.held m x) c = h' at HF HN
        go_wp2_with fail
        refine HF.out.mono ?_
        rintro e w3 ⟨ao, cap, rfl, hO, hS3, hG3⟩
        have HT3 := Hid.mk' (HT.out.feed hS3 hG3)
        have HO := Hid.mk' hO
        clear hO hS3 hG3 HF hcell
        go_wp2_with (first | (at_builtin; refine wpList_append_at rfl (.tmp 39) (.tmp 40) 22 rfl hi 5 i0 Try.underlying22 Hi.out Hz0.out Hz1.out Hz2.out rfl rfl HT3.out.one rfl rfl HO.out.isB (by omega) HT3.out.size ?_; intro ao4 cap4 w4 hA4 hG4 hat4; have HT4 := Hid.mk' (HT3.out.fst hA4 hG4 hat4); have HO4 := Hid.mk' (HT.out.other HO.out hG4); clear hA4 hG4 hat4) | (at_builtin; refine wpList_append_at rfl (.tmp 42) (.tmp 43) 22 rfl hi 5 i0 Try.underlying22 Hi.out Hz0.out Hz1.out Hz2.out rfl rfl HT4.out.two rfl rfl HO4.out (by omega) HT4.out.size ?_; intro ao5 cap5 w5 hP5 hG5 hat5; have HT5 := Hid.mk' (HT4.out.snd hP5 hG5 hat5); clear hP5 hG5 hat5))
        go_roundw
        case rel => exact ⟨i + 1, by omega, by go_num, x ++ [c], all ++ o, part ++ o, ao4, cap4, ao5, cap5, by rw [List.length_append], by rw [List.length_append], by rw [← HN.out.2]; exact HT5.out, HN.out.1⟩
        case measure => simp [intOf]; omega
      · have hyes := HI.out.yes hlt (by rw [hc]; exact hfd)
        rw [hc] at hyes
        rw [hfd] at HF
        have hm0 := hyes.2.2.2
        have tm : ((m.length : Int) == 0) = false := by rw [beq_eq_false_iff_ne]; omega
        have HN := Hid.mk' hyes
        clear hyes hfd hc
        generalize Sk.out m (Sk.held m x) c = o at HF HN hol
        generalize Sk.after m (Sk.held m x) c = h' at HF HN
        go_wp2_with fail
        refine HF.out.mono ?_
        rintro e w3 ⟨ao, cap, rfl, hO, hS3, hG3⟩
        have HT3 := Hid.mk' (HT.out.feed hS3 hG3)
        have HO := Hid.mk' hO
        clear hO hS3 hG3 HF hcell
        go_wp2_with (first | (at_builtin; refine wpList_append_at rfl (.tmp 39) (.tmp 40) 22 rfl hi 5 i0 Try.underlying22 Hi.out Hz0.out Hz1.out Hz2.out rfl rfl HT3.out.one rfl rfl HO.out.isB (by omega) HT3.out.size ?_; intro ao4 cap4 w4 hA4 hG4 hat4; have HT4 := Hid.mk' (HT3.out.fst hA4 hG4 hat4); have HO4 := Hid.mk' (HT.out.other HO.out hG4); clear hA4 hG4 hat4) | (at_builtin; refine wpList_append_at rfl (.tmp 42) (.tmp 43) 22 rfl hi 5 i0 Try.underlying22 Hi.out Hz0.out Hz1.out Hz2.out rfl rfl HT4.out.two rfl rfl HO4.out (by omega) HT4.out.size ?_; intro ao5 cap5 w5 hP5 hG5 hat5; have HT5 := Hid.mk' (HT4.out.snd hP5 hG5 hat5); have hq5 := HQ.out w5 HT5.out.below; clear hP5 hG5 hat5))
        refine (find_any w5 ao5 cap5 (part.length + o.length) (part ++ o) ms HT5.out.two.isB (by rw [List.length_append]) (by rw [HMs.out.2]; omega) (by omega)).mono ?_
        rintro e w6 ⟨r, rfl, hfi, hw⟩
        subst hw
        rw [HMs.out.1] at hfi
        have hr := hfi.free HN.out.2.2.1
        subst hr
        clear hfi hq5
        go_wp2_with (at_builtin; refine wpList_append_at rfl (.tmp 56) (.tmp 57) 22 rfl hi 5 i0 Try.underlying22 Hi.out Hz0.out Hz1.out Hz2.out (l := all ++ o) rfl (by rw [List.length_append]) HT5.out.one rfl rfl (HM.out.stay HT5.out.below) (by omega) HT5.out.size ?_; intro ao7 cap7 w7 hA7 hG7 hat7; have HT7 := Hid.mk' (HT5.out.fst hA7 hG7 hat7); clear hA7 hG7 hat7)
        go_roundw
        case rel => exact ⟨i + 1, by omega, by go_num, [], all ++ o ++ m, [], ao7, cap7, none, 0, by rw [List.length_append, List.length_append], rfl, by rw [← HN.out.2.1]; exact HT7.out.drop, HN.out.1⟩
        case measure => simp [intOf]; omega
    · obtain rfl : i = b.length := by omega
      have hh := Sk.held_le m x
      have HR := Hid.mk' (rest_any wr lo hi g m (Sk.held m x) HT.out.seek (by omega) (by omega) HT.out.size)
      have HE : Hid (all ++ m.take (Sk.held m x) = b) := by have := HI.out.came; rwa [List.take_length] at this
      have HFr : Hid (0 < m.length → Sk.Free m part) := fun h0 => Sk.free_prefix (y := m.take (Sk.held m x)) (by rw [HI.out.since]; exact HI.out.free h0)
      generalize Sk.held m x = h at HR HE hh HT
      have hq5 := HQ.out wr HT.out.below
      clear HI
      by_cases hm0 : 0 < m.length
      · have tm : decide ((m.length : Int) > 0) = true := by rw [decide_eq_true_eq]; omega
        have HFd := Hid.mk' (find_any wr aop capp part.length part ms HT.out.two.isB rfl (by rw [HMs.out.2]; omega) (by omega))
        have HF1 := Hid.mk' (HFr.out hm0)
        go_wp2_with fail
        refine HFd.out.mono ?_
        rintro e w6 ⟨r, rfl, hfi, hw⟩
        subst hw
        rw [HMs.out.1] at hfi
        have hr := hfi.free HF1.out
        subst hr
        clear hfi hq5 HFd
        go_wp2_with fail
        refine HR.out.mono ?_
        rintro e w3 ⟨ao, cap, rfl, hO, hS3, hG3⟩
        have HT3 := Hid.mk' (HT.out.feed hS3 hG3)
        have HFi := Hid.mk' (fun (W : World) (hW : SeekAt W lo hi g m 0) => fits_any W lo hi g m 0 hW)
        have HO := Hid.mk' hO
        have hle : (h : Int) ≤ m.length := by omega
        have hlt3 : (m.take h).length = h := by rw [List.length_take]; omega
        have HL := Hid.mk' hlt3
        clear hO hS3 hG3 HR hlt3
        go_wp2_with (at_builtin; refine wpList_append_at rfl (.tmp 71) (.tmp 72) 22 rfl hi 5 i0 Try.underlying22 Hi.out Hz0.out Hz1.out Hz2.out rfl rfl HT3.out.one rfl HL.out HO.out.isB (by omega) HT3.out.size ?_; intro ao4 cap4 w4 hA4 hG4 hat4; have HT4 := Hid.mk' (HT3.out.fst hA4 hG4 hat4); clear hA4 hG4 hat4)
        have HSb := Hid.mk' (sameBytes_any w4 ao4 ab cap4 capb (all.length + h) b.length (all ++ m.take h) b (by rw [List.length_append, HL.out]) rfl HT4.out.one.isB (HB.out.stay HT4.out.below))
        rw [HE.out, decide_eq_true (rfl : b = b)] at HSb
        refine HSb.out.mono ?_
        rintro e w5 ⟨rfl, hw⟩
        subst hw
        go_wp2_with fail
        refine (HFi.out _ HT4.out.seek).mono ?_
        rintro e w6 ⟨rfl, hw⟩
        subst hw
        go_wp2
        go_ret
        exact ⟨rfl, HT4.out.below⟩
      · have tm : decide ((m.length : Int) > 0) = false := by rw [decide_eq_false_iff_not]; omega
        clear hq5
        go_wp2_with fail
        refine HR.out.mono ?_
        rintro e w3 ⟨ao, cap, rfl, hO, hS3, hG3⟩
        have HT3 := Hid.mk' (HT.out.feed hS3 hG3)
        have HFi := Hid.mk' (fun (W : World) (hW : SeekAt W lo hi g m 0) => fits_any W lo hi g m 0 hW)
        have HO := Hid.mk' hO
        have hle : (h : Int) ≤ m.length := by omega
        have hlt3 : (m.take h).length = h := by rw [List.length_take]; omega
        have HL := Hid.mk' hlt3
        clear hO hS3 hG3 HR hlt3
        go_wp2_with (at_builtin; refine wpList_append_at rfl (.tmp 71) (.tmp 72) 22 rfl hi 5 i0 Try.underlying22 Hi.out Hz0.out Hz1.out Hz2.out rfl rfl HT3.out.one rfl HL.out HO.out.isB (by omega) HT3.out.size ?_; intro ao4 cap4 w4 hA4 hG4 hat4; have HT4 := Hid.mk' (HT3.out.fst hA4 hG4 hat4); clear hA4 hG4 hat4)
        have HSb := Hid.mk' (sameBytes_any w4 ao4 ab cap4 capb (all.length + h) b.length (all ++ m.take h) b (by rw [List.length_append, HL.out]) rfl HT4.out.one.isB (HB.out.stay HT4.out.below))
        rw [HE.out, decide_eq_true (rfl : b = b)] at HSb
        refine HSb.out.mono ?_
        rintro e w5 ⟨rfl, hw⟩
        subst hw
        go_wp2_with fail
        refine (HFi.out _ HT4.out.seek).mono ?_
        rintro e w6 ⟨rfl, hw⟩
        subst hw
        go_wp2
        go_ret
        exact ⟨rfl, HT4.out.below⟩
end Go.Proofs.Ytkncgfknmccfeaa
