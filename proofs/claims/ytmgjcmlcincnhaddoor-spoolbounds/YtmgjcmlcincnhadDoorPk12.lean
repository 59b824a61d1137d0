/- Small texts, one behind the other: SqL, SqLawB. -/
import Derived.Test.YtmgjcmlcincnhadDoorPk11
import Derived.Lib.SlBytesConst
/- The statements' own: spoolBegun, walked. -/
namespace Go.Proofs.YtmgjcmlcincnhadDoor
open Go.RowKit

def sb1 : Sp.St := ⟨[⟨1, 3, ⟨#[109]⟩, [], 0⟩], 1⟩
def sb2 : Sp.St := ⟨[⟨1, 3, ⟨#[109]⟩, [97, 98], 0⟩], 1⟩
def sb3 : Sp.St := ⟨[⟨1, 3, ⟨#[109]⟩, [97, 98, 99], 0⟩], 1⟩
def sb4 : Sp.St := ⟨[⟨1, 3, ⟨#[109]⟩, [97, 98, 99], 1⟩], 1⟩
def sb5 : Sp.St := ⟨[⟨1, 3, ⟨#[109]⟩, [97, 98, 99], 2⟩], 1⟩
theorem sb_1 : Sp.create Sp.new 3 ⟨#[109]⟩ = (sb1, 1, 0) := by
  unfold Sp.create
  rw [if_neg (by decide), if_neg (by decide), if_neg, if_neg (by decide)]
  · rfl
  · decide
theorem sb_2 : Sp.append sb1 1 0 [97, 98] = (sb2, 0) := by rfl
theorem sb_3 : Sp.begins sb2 1 = (sb2, 14) := by rfl
theorem sb_4 : Sp.append sb2 1 2 [99] = (sb3, 0) := by rfl
theorem sb_5 : Sp.begins sb3 1 = (sb4, 0) := by rfl
theorem sb_6 : Sp.ends sb4 1 = (sb5, 0) := by rfl
theorem sbk1 : Sp.Ok sb1 := by have := Sp.Ok.create Sp.Ok.new 3 ⟨#[109]⟩; rw [sb_1] at this; exact this
theorem sbk2 : Sp.Ok sb2 := by have := sbk1.append 1 0 [97, 98]; rw [sb_2] at this; exact this
theorem sbk3 : Sp.Ok sb3 := by have := sbk2.append 1 2 [99]; rw [sb_4] at this; exact this
theorem sbk4 : Sp.Ok sb4 := by have := sbk3.begins 1; rw [sb_5] at this; exact this
theorem sbk5 : Sp.Ok sb5 := by have := sbk4.ends 1; rw [sb_6] at this; exact this
/-- a spool all of whose memory is new -/
abbrev SpNew (B : Nat) (w : World) (g : Nat) (s : Sp.St) : Prop := SpoolAt w (fun k => B ≤ k) g s
theorem Did.new_ {B : Nat} {w w' : World} {g : Nat} {r : Sp.St × Nat} {e : Ending} (h : Did (fun k => B ≤ k) 71 w g r e w') (hB : B ≤ w.heap.size) : e = .returned (.int .i64 (r.2 : Int)) ∧ SpNew B w' g r.1 ∧ Below B w w' := by
  refine ⟨h.ret, h.at_.mono (fun k _ e => ?_), h.turns.below (fun k e => e) hB⟩
  rcases e with e | e
  · exact e
  · omega
theorem Made.new_ {B : Nat} {w w' : World} {g : Nat} {r : Sp.St × Int × Nat} {e : Ending} (h : Made (fun k => B ≤ k) 71 w g r e w') (hB : B ≤ w.heap.size) : e = .returned (.tuple #[.int .i64 r.2.1, .int .i64 (r.2.2 : Int)]) ∧ SpNew B w' g r.1 ∧ Below B w w' := by
  refine ⟨h.ret, h.at_.mono (fun k _ e => ?_), h.turns.below (fun k e => e) hB⟩
  rcases e with e | e
  · exact e
  · omega
theorem isB_ab (W : World) : IsB (W.alloc (.cells #[.int .u8 97, .int .u8 98] 5 (2, 3))) (some ⟨W.heap.size, 0, none⟩) 2 [97, 98] := by
  refine ⟨Nat.le_refl _, fun e => by simp at e, fun j hj => ⟨_, rfl, ?_⟩⟩
  rw [Addr.add_lit, World.cell?_alloc_mark, Nat.zero_add]
  match j, hj with
  | 0, _ => rfl
  | 1, _ => rfl
theorem isB_c (W : World) : IsB (W.alloc (.cells #[.int .u8 99] 5 (1, 2))) (some ⟨W.heap.size, 0, none⟩) 1 [99] := by
  refine ⟨Nat.le_refl _, fun e => by simp at e, fun j hj => ⟨_, rfl, ?_⟩⟩
  rw [Addr.add_lit, World.cell?_alloc_mark, Nat.zero_add]
  match j, hj with
  | 0, _ => rfl
set_option maxRecDepth 100000 in
set_option maxHeartbeats 2000000 in
theorem spoolBegun_any (w : World) :
    Calls Tryd.prog 11 #[] w fun e w' => e = .returned (.bool true) ∧ Below w.heap.size w w' := by
  have H0 := Hid.mk' (newU_any w)
  have H1 : Hid (∀ W, Below w.heap.size w W → SpNew w.heap.size W w.heap.size Sp.new → Calls Tryd.prog 16 #[.pointer (some ⟨w.heap.size, 0, none⟩), .int .i64 3, .string ⟨#[109]⟩] W fun e w' => e = .returned (.tuple #[.int .i64 1, .int .i64 0]) ∧ SpNew w.heap.size w' w.heap.size sb1 ∧ Below w.heap.size w w') := fun W hW hS => (createU_any Sp.new _ w.heap.size 3 ⟨#[109]⟩ W hS Sp.Ok.new (by decide) (by decide)).mono fun e w' hm => by
    rw [sb_1] at hm
    obtain ⟨h1, h2, h3⟩ := hm.new_ hW.size
    exact ⟨h1, h2, hW.trans h3⟩
  have H2 : Hid (∀ W, Below w.heap.size w W → SpNew w.heap.size W w.heap.size sb1 → Calls Tryd.prog 18 #[.pointer (some ⟨w.heap.size, 0, none⟩), .int .i64 1, .int .i64 0, .slice (some ⟨W.heap.size, 0, none⟩) 2 2] (W.alloc (.cells #[.int .u8 97, .int .u8 98] 5 (2, 3))) fun e w' => e = .returned (.int .i64 0) ∧ SpNew w.heap.size w' w.heap.size sb2 ∧ Below w.heap.size w w') := fun W hW hS => (appendU_any sb1 _ w.heap.size 1 0 _ 2 2 [97, 98] _ (hS.stay ((Below.refl _ _).alloc (Nat.le_refl _) _)) sbk1 (isB_ab W) rfl (by decide)).mono fun e w' hm => by
    rw [sb_2] at hm
    have hb : Below w.heap.size w (W.alloc (.cells #[.int .u8 97, .int .u8 98] 5 (2, 3))) := hW.alloc hW.size _
    obtain ⟨h1, h2, h3⟩ := hm.new_ hb.size
    exact ⟨h1, h2, hb.trans h3⟩
  have H3 : Hid (∀ W, Below w.heap.size w W → SpNew w.heap.size W w.heap.size sb2 → Calls Tryd.prog 24 #[.pointer (some ⟨w.heap.size, 0, none⟩), .int .i64 1] W fun e w' => e = .returned (.int .i64 14) ∧ SpNew w.heap.size w' w.heap.size sb2 ∧ Below w.heap.size w w') := fun W hW hS => (beginU_any sb2 _ w.heap.size 1 W hS sbk2).mono fun e w' hm => by
    rw [sb_3] at hm
    obtain ⟨h1, h2, h3⟩ := hm.new_ hW.size
    exact ⟨h1, h2, hW.trans h3⟩
  have H4 : Hid (∀ W, Below w.heap.size w W → SpNew w.heap.size W w.heap.size sb2 → Calls Tryd.prog 18 #[.pointer (some ⟨w.heap.size, 0, none⟩), .int .i64 1, .int .i64 2, .slice (some ⟨W.heap.size, 0, none⟩) 1 1] (W.alloc (.cells #[.int .u8 99] 5 (1, 2))) fun e w' => e = .returned (.int .i64 0) ∧ SpNew w.heap.size w' w.heap.size sb3 ∧ Below w.heap.size w w') := fun W hW hS => (appendU_any sb2 _ w.heap.size 1 2 _ 1 1 [99] _ (hS.stay ((Below.refl _ _).alloc (Nat.le_refl _) _)) sbk2 (isB_c W) rfl (by decide)).mono fun e w' hm => by
    rw [sb_4] at hm
    have hb : Below w.heap.size w (W.alloc (.cells #[.int .u8 99] 5 (1, 2))) := hW.alloc hW.size _
    obtain ⟨h1, h2, h3⟩ := hm.new_ hb.size
    exact ⟨h1, h2, hb.trans h3⟩
  have H5 : Hid (∀ W, Below w.heap.size w W → SpNew w.heap.size W w.heap.size sb3 → Calls Tryd.prog 24 #[.pointer (some ⟨w.heap.size, 0, none⟩), .int .i64 1] W fun e w' => e = .returned (.int .i64 0) ∧ SpNew w.heap.size w' w.heap.size sb4 ∧ Below w.heap.size w w') := fun W hW hS => (beginU_any sb3 _ w.heap.size 1 W hS sbk3).mono fun e w' hm => by
    rw [sb_5] at hm
    obtain ⟨h1, h2, h3⟩ := hm.new_ hW.size
    exact ⟨h1, h2, hW.trans h3⟩
  have H6 : Hid (∀ W, Below w.heap.size w W → SpNew w.heap.size W w.heap.size sb4 → Calls Tryd.prog 26 #[.pointer (some ⟨w.heap.size, 0, none⟩), .int .i64 1] W fun e w' => e = .returned (.int .i64 0) ∧ SpNew w.heap.size w' w.heap.size sb5 ∧ Below w.heap.size w w') := fun W hW hS => (endU_any sb4 _ w.heap.size 1 W hS sbk4).mono fun e w' hm => by
    rw [sb_6] at hm
    obtain ⟨h1, h2, h3⟩ := hm.new_ hW.size
    exact ⟨h1, h2, hW.trans h3⟩
  have H7 : Hid (∀ W, Below w.heap.size w W → SpNew w.heap.size W w.heap.size sb5 → Calls Tryd.prog 30 #[.pointer (some ⟨w.heap.size, 0, none⟩)] W fun e w' => e = .returned (.int .i64 3) ∧ SpNew w.heap.size w' w.heap.size sb5 ∧ Below w.heap.size w w') := fun W hW hS => (usedU_any sb5 _ w.heap.size W hS (by decide) (by decide)).mono fun e w' ⟨h1, h2⟩ => ⟨h1, hS.stay h2, hW.trans (h2.mono hW.size)⟩
  have H8 : Hid (∀ W, Below w.heap.size w W → SpNew w.heap.size W w.heap.size sb5 → Calls Tryd.prog 32 #[.pointer (some ⟨w.heap.size, 0, none⟩)] W fun e w' => e = .returned (.int .i64 2) ∧ SpNew w.heap.size w' w.heap.size sb5 ∧ Below w.heap.size w w') := fun W hW hS => (nextU_any sb5 _ w.heap.size W hS (by decide) (by decide)).mono fun e w' ⟨h1, h2⟩ => ⟨h1, by rw [h2]; exact hS, by rw [h2]; exact hW⟩
  have H9 : Hid (∀ W, Below w.heap.size w W → SpNew w.heap.size W w.heap.size sb5 → Calls Tryd.prog 29 #[.pointer (some ⟨w.heap.size, 0, none⟩)] W fun e w' => ∃ ao, e = .returned (.slice ao 1 1) ∧ Below w.heap.size w w') := fun W hW hS => (listU_any sb5 _ w.heap.size W hS sbk5.small).mono fun e w' ⟨ao, h1, h2, h3⟩ => ⟨ao, h1, hW.trans (h3.mono hW.size)⟩
  have kc := fun (w : World) (C : Array Value) (n c : Nat) => Lib.run_convert_bytes_const (P := Tryd.prog) w 25 5 C n c Tryd.underlying25 Tryd.underlying5
  go_enter Tryd.func11, Tryd.ntmps11
  go_wp2_with (first
    | (go_at_call 13; refine H0.out.mono ?_; rintro e w1 ⟨rfl, hs, hb⟩; have S1 := Hid.mk' hs; have B1 := Hid.mk' hb; clear hs hb)
    | (go_at_call 16; refine (H1.out _ B1.out S1.out).mono ?_; rintro e w2 ⟨rfl, hs, hb⟩; have S2 := Hid.mk' hs; have B2 := Hid.mk' hb; clear hs hb)
    | (go_at_call 18; refine (H2.out _ B2.out S2.out).mono ?_; rintro e w3 ⟨rfl, hs, hb⟩; have S3 := Hid.mk' hs; have B3 := Hid.mk' hb; clear hs hb H2)
    | (go_at_call 24; refine (H3.out _ B3.out S3.out).mono ?_; rintro e w4 ⟨rfl, hs, hb⟩; have S4 := Hid.mk' hs; have B4 := Hid.mk' hb; clear hs hb H3)
    | (go_at_call 18; refine (H4.out _ B4.out S4.out).mono ?_; rintro e w5 ⟨rfl, hs, hb⟩; have S5 := Hid.mk' hs; have B5 := Hid.mk' hb; clear hs hb)
    | (go_at_call 24; refine (H5.out _ B5.out S5.out).mono ?_; rintro e w6 ⟨rfl, hs, hb⟩; have S6 := Hid.mk' hs; have B6 := Hid.mk' hb; clear hs hb)
    | (go_at_call 26; refine (H6.out _ B6.out S6.out).mono ?_; rintro e w7 ⟨rfl, hs, hb⟩; have S7 := Hid.mk' hs; have B7 := Hid.mk' hb; clear hs hb)
    | (go_at_call 30; refine (H7.out _ B7.out S7.out).mono ?_; rintro e w8 ⟨rfl, hs, hb⟩; have S8 := Hid.mk' hs; have B8 := Hid.mk' hb; clear hs hb)
    | (go_at_call 32; refine (H8.out _ B8.out S8.out).mono ?_; rintro e w9 ⟨rfl, hs, hb⟩; have S9 := Hid.mk' hs; have B9 := Hid.mk' hb; clear hs hb)
    | (go_at_call 29; refine (H9.out _ B9.out S9.out).mono ?_; rintro e w10 ⟨ao, rfl, hb⟩; have B10 := Hid.mk' hb; clear hb))
  go_ret
  exact ⟨rfl, B10.out⟩
end Go.Proofs.YtmgjcmlcincnhadDoor

/- SpoolBounds, walked. -/
namespace Go.Proofs.YtmgjcmlcincnhadDoor
open Go.RowKit

theorem Sp.Ok.prev {s : Sp.St} (ok : Sp.Ok s) (j : Nat) (h : j + 1 < s.l.length) : s.l[j].id < s.l[j + 1].id := by
  have := List.pairwise_iff_getElem.1 ok.rise j (j + 1) (by simp; omega) (by simpa using h) (by omega)
  simpa using this
theorem Sp.created (s : Sp.St) (size : Int) (m : ByteArray) : ((Sp.create s size m).2.2 ≠ 0 ∧ (Sp.create s size m).1.last = s.last) ∨ ((Sp.create s size m).2.2 = 0 ∧ (Sp.create s size m).2.1 = (Sp.create s size m).1.last ∧ (Sp.create s size m).1.last = s.last + 1) := by
  unfold Sp.create
  split
  · exact Or.inl ⟨by simp, rfl⟩
  · split
    · exact Or.inl ⟨by simp, rfl⟩
    · split
      · exact Or.inl ⟨by simp, rfl⟩
      · split
        · exact Or.inl ⟨by simp, rfl⟩
        · exact Or.inr ⟨rfl, rfl, rfl⟩
set_option maxRecDepth 100000 in
set_option maxHeartbeats 8000000 in
theorem spoolBounds_any (l : List Stp) (ao : Option Addr) (cap n : Nat) (w : World) (hl : IsV w ao cap n (stpV l)) (hn : l.length = n) (hz : ∀ p ∈ l, p.text.size ≤ 140737488355328) (hN : n ≤ 9223372036854775807) :
    Calls Tryd.prog 5 #[.slice ao n cap] w fun e w' => e = .returned (.bool true) ∧ Below w.heap.size w w' := by
  subst hn
  have hcap := hl.1
  have H := Hid.mk' hl
  have HSb := Hid.mk' (spoolBegun_any w)
  have HG : Hid (∀ W, Below w.heap.size w W → Calls Tryd.prog 12 #[.slice ao l.length cap] W fun e w' => ∃ b : Bool, e = .returned (.bool b) ∧ (b = false → l.length ≤ 200 ∧ stpN l ≤ 20000) ∧ w' = W) := fun W hW => greatSteps_any l ao cap l.length W (hl.stay hW) rfl hz hN
  clear hl hz
  go_enter Tryd.func5, Tryd.ntmps5
  go_wp2_with fail
  refine HSb.out.mono ?_
  rintro e w1 ⟨rfl, hb1⟩
  have HB1 := Hid.mk' hb1
  have HG1 := Hid.mk' (HG.out w1 hb1)
  clear hb1 HG
  go_wp2_with fail
  refine HG1.out.mono ?_
  rintro e w1' ⟨b, rfl, hsm, hw1⟩
  rw [hw1]
  clear hw1 w1'
  cases b with
  | true =>
    go_wp2
    go_ret
    exact ⟨rfl, HB1.out⟩
  | false =>
    obtain ⟨h200, h20⟩ := hsm rfl
    have HNw := Hid.mk' (newU_any w1)
    clear hsm
    go_wp2_with fail
    refine HNw.out.mono ?_
    rintro e w2 ⟨rfl, hs2, hb2⟩
    have HS2 : Hid (SpNew w.heap.size w2 w1.heap.size Sp.new) := hs2.mono (fun k _ e => Nat.le_trans HB1.out.size e)
    have HB2 : Hid (Below w.heap.size w w2) := HB1.out.trans (hb2.mono HB1.out.size)
    clear hs2 hb2 HB1 HG1 HNw HSb
    generalize w1.heap.size = g at *
    clear w1
    go_wp2
    go_loopw [4, 5] (fun v t wr => ∃ (i : Nat) (s : Sp.St), i ≤ l.length ∧ t = .int .i64 i ∧ v = .int .i64 s.last ∧ SpNew w.heap.size wr g s ∧ Sp.Ok s ∧ s.last ≤ i ∧ Below w.heap.size w wr) (fun _ t _ => l.length - (intOf t).toNat)
    case atStart => exact ⟨0, Sp.new, Nat.zero_le _, rfl, rfl, HS2.out, Sp.Ok.new, by decide, HB2.out⟩
    case round =>
      obtain ⟨i, s, hi, rfl, rfl, hS, ok, hla, hB⟩ := hrel
      have HB := Hid.mk' hB; have HS := Hid.mk' hS; have HK := Hid.mk' ok
      have hl0 := ok.last0
      clear hB hS ok HS2 HB2
      generalize wr = wo at *
      by_cases hlt : i < l.length
      · obtain ⟨bb, oo, rfl, hc0, hc1, hc2, hc3⟩ := stp_at (H.out.stay HB.out) i hlt
        have hlt' : (i : Int) < l.length := by omega
        have htx : l[i].text.size ≤ 20000 := Nat.le_trans (stpN_one l i hlt) h20
        generalize l[i] = p at *
        have hbX := (Below.refl _ wo).alloc (Nat.le_refl _) (.cells #[.int .i64 p.op, .int .i64 p.id, .int .i64 p.n, .string p.text] 39)
        have HBX : Hid (Below w.heap.size w (wo.alloc (.cells #[.int .i64 p.op, .int .i64 p.id, .int .i64 p.n, .string p.text] 39))) := HB.out.alloc HB.out.size _
        have HSX := Hid.mk' (HS.out.stay hbX)
        clear hbX HS
        go_upto_region 11 with fail
        go_cut [29] from 18 to 155 (fun t wd => t = .int .i64 p.op ∧ wd = wo.alloc (.cells #[.int .i64 p.op, .int .i64 p.id, .int .i64 p.n, .string p.text] 39))
        case first =>
          go_wp2
          go_meet
          exact ⟨rfl, rfl⟩
        case rest =>
          obtain ⟨rfl, rfl⟩ := hcut
          rename_i hkk
          refine hkk _ _ ?_
          have y1 : (wo.alloc (.cells #[.int .i64 p.op, .int .i64 p.id, .int .i64 p.n, .string p.text] 39)).cell? ⟨wo.heap.size, 1, none⟩ = some (.int .i64 p.id) := World.cell?_alloc_mark wo _ _ _ 1
          have y2 : (wo.alloc (.cells #[.int .i64 p.op, .int .i64 p.id, .int .i64 p.n, .string p.text] 39)).cell? ⟨wo.heap.size, 2, none⟩ = some (.int .i64 p.n) := World.cell?_alloc_mark wo _ _ _ 2
          have y3 : (wo.alloc (.cells #[.int .i64 p.op, .int .i64 p.id, .int .i64 p.n, .string p.text] 39)).cell? ⟨wo.heap.size, 3, none⟩ = some (.string p.text) := World.cell?_alloc_mark wo _ _ _ 3
          generalize wo.alloc (.cells #[.int .i64 p.op, .int .i64 p.id, .int .i64 p.n, .string p.text] 39) = wx at *
          generalize wo.heap.size = xb at *
          go_cut [4] from 18 to 155 (fun v wd => ∃ s' : Sp.St, v = .int .i64 s'.last ∧ SpNew w.heap.size wd g s' ∧ Sp.Ok s' ∧ s'.last ≤ i + 1 ∧ Below w.heap.size w wd)
          case first =>
            have hsz := HBX.out.size
            by_cases o0 : p.op = 0
            · have HM := Hid.mk' ((createU_any s _ g p.n p.text _ HSX.out HK.out (by omega) (by omega)).mono fun e w' h => h.new_ hsz)
              have HE : Hid (∀ w', SpNew w.heap.size w' g (Sp.create s p.n p.text).1 → Below w.heap.size wx w' → ∃ s' : Sp.St, Value.int .i64 (Sp.create s p.n p.text).1.last = .int .i64 s'.last ∧ SpNew w.heap.size w' g s' ∧ Sp.Ok s' ∧ s'.last ≤ i + 1 ∧ Below w.heap.size w w') := fun w' h1 h2 => ⟨_, rfl, h1, HK.out.create p.n p.text, by have := Sp.last_le_create s p.n p.text; omega, HBX.out.trans h2⟩
              have hcr := Sp.created s p.n p.text
              generalize Sp.create s p.n p.text = r at *
              obtain ⟨rs, rid, rc⟩ := r
              go_wp2_with fail
              refine HM.out.mono ?_
              rintro e w3 ⟨rfl, hs3, hb3⟩
              have HE3 := Hid.mk' (HE.out w3 hs3 hb3)
              clear hs3 hb3 HE HM
              rcases hcr with ⟨hc1, hc2⟩ | ⟨hc1, hc2, hc3⟩
              · have hc0 : ¬ ((rc : Int) = 0) := by omega
                rw [hc2] at HE3
                clear hc1 hc2
                go_wp2
                go_meet
                exact HE3.out
              · have hid : ¬ (rid ≤ s.last) := by omega
                rw [← hc2] at HE3
                clear hc2 hc3
                subst hc1
                go_wp2
                go_meet
                exact HE3.out
            · by_cases o1 : p.op = 1
              · obtain ⟨bcap, wv, hcv, hbv, hsv, hIv⟩ := bytes_of (P := Tryd.prog) wx p.text 9 25 5 Tryd.underlying9 Tryd.underlying25 Tryd.underlying5
                have HBV : Hid (Below w.heap.size w wv) := HBX.out.trans (hbv.mono hsz)
                have HM := Hid.mk' ((appendU_any s _ g p.id p.n _ p.text.size bcap p.text.data.toList wv (HSX.out.stay hbv) HK.out hIv (by rw [Array.length_toList]; rfl) (by omega)).mono fun e w' h => h.new_ HBV.out.size)
                have HE : Hid (∀ w', SpNew w.heap.size w' g (Sp.append s p.id p.n p.text.data.toList).1 → Below w.heap.size wv w' → ∃ s' : Sp.St, Value.int .i64 s.last = .int .i64 s'.last ∧ SpNew w.heap.size w' g s' ∧ Sp.Ok s' ∧ s'.last ≤ i + 1 ∧ Below w.heap.size w w') := fun w' h1 h2 => ⟨_, by rw [Sp.last_append], h1, HK.out.append _ _ _, by rw [Sp.last_append]; omega, HBV.out.trans h2⟩
                generalize Sp.append s p.id p.n p.text.data.toList = r at *
                clear hbv hsv hIv
                go_wp2_with fail
                refine HM.out.mono ?_
                rintro e w3 ⟨rfl, hs3, hb3⟩
                have HE3 := Hid.mk' (HE.out w3 hs3 hb3)
                clear hs3 hb3
                go_wp2
                go_meet
                exact HE3.out
              · by_cases o2 : p.op = 2
                · have HM := Hid.mk' ((declareU_any s _ g p.id p.n _ HSX.out HK.out).mono fun e w' h => h.new_ hsz)
                  have HE : Hid (∀ w', SpNew w.heap.size w' g (Sp.declare s p.id p.n).1 → Below w.heap.size wx w' → ∃ s' : Sp.St, Value.int .i64 s.last = .int .i64 s'.last ∧ SpNew w.heap.size w' g s' ∧ Sp.Ok s' ∧ s'.last ≤ i + 1 ∧ Below w.heap.size w w') := fun w' h1 h2 => ⟨_, by rw [Sp.last_declare], h1, HK.out.declare _ _, by rw [Sp.last_declare]; omega, HBX.out.trans h2⟩
                  generalize Sp.declare s p.id p.n = r at *
                  go_wp2_with fail
                  refine HM.out.mono ?_
                  rintro e w3 ⟨rfl, hs3, hb3⟩
                  have HE3 := Hid.mk' (HE.out w3 hs3 hb3)
                  clear hs3 hb3
                  go_wp2
                  go_meet
                  exact HE3.out
                · by_cases o3 : p.op = 3
                  · have HM := Hid.mk' ((dropU_any s _ g p.id _ HSX.out HK.out).mono fun e w' h => h.new_ hsz)
                    have HE : Hid (∀ w', SpNew w.heap.size w' g (Sp.drop s p.id).1 → Below w.heap.size wx w' → ∃ s' : Sp.St, Value.int .i64 s.last = .int .i64 s'.last ∧ SpNew w.heap.size w' g s' ∧ Sp.Ok s' ∧ s'.last ≤ i + 1 ∧ Below w.heap.size w w') := fun w' h1 h2 => ⟨_, by rw [Sp.last_drop], h1, HK.out.drop _, by rw [Sp.last_drop]; omega, HBX.out.trans h2⟩
                    generalize Sp.drop s p.id = r at *
                    go_wp2_with fail
                    refine HM.out.mono ?_
                    rintro e w3 ⟨rfl, hs3, hb3⟩
                    have HE3 := Hid.mk' (HE.out w3 hs3 hb3)
                    clear hs3 hb3
                    go_wp2
                    go_meet
                    exact HE3.out
                  · by_cases o4 : p.op = 4
                    · have HM := Hid.mk' ((beginU_any s _ g p.id _ HSX.out HK.out).mono fun e w' h => h.new_ hsz)
                      have HE : Hid (∀ w', SpNew w.heap.size w' g (Sp.begins s p.id).1 → Below w.heap.size wx w' → ∃ s' : Sp.St, Value.int .i64 s.last = .int .i64 s'.last ∧ SpNew w.heap.size w' g s' ∧ Sp.Ok s' ∧ s'.last ≤ i + 1 ∧ Below w.heap.size w w') := fun w' h1 h2 => ⟨_, by rw [Sp.last_begins], h1, HK.out.begins _, by rw [Sp.last_begins]; omega, HBX.out.trans h2⟩
                      generalize Sp.begins s p.id = r at *
                      go_wp2_with fail
                      refine HM.out.mono ?_
                      rintro e w3 ⟨rfl, hs3, hb3⟩
                      have HE3 := Hid.mk' (HE.out w3 hs3 hb3)
                      clear hs3 hb3
                      go_wp2
                      go_meet
                      exact HE3.out
                    · by_cases o5 : p.op = 5
                      · have HM := Hid.mk' ((endU_any s _ g p.id _ HSX.out HK.out).mono fun e w' h => h.new_ hsz)
                        have HE : Hid (∀ w', SpNew w.heap.size w' g (Sp.ends s p.id).1 → Below w.heap.size wx w' → ∃ s' : Sp.St, Value.int .i64 s.last = .int .i64 s'.last ∧ SpNew w.heap.size w' g s' ∧ Sp.Ok s' ∧ s'.last ≤ i + 1 ∧ Below w.heap.size w w') := fun w' h1 h2 => ⟨_, by rw [Sp.last_ends], h1, HK.out.ends _, by rw [Sp.last_ends]; omega, HBX.out.trans h2⟩
                        generalize Sp.ends s p.id = r at *
                        go_wp2_with fail
                        refine HM.out.mono ?_
                        rintro e w3 ⟨rfl, hs3, hb3⟩
                        have HE3 := Hid.mk' (HE.out w3 hs3 hb3)
                        clear hs3 hb3
                        go_wp2
                        go_meet
                        exact HE3.out
                      · go_wp2
                        go_meet
                        exact ⟨s, rfl, HSX.out, HK.out, by omega, HBX.out⟩
          case rest =>
            obtain ⟨s', rfl, hS, ok, hla', hB⟩ := hcut
            have HLi := Hid.mk' (listU_any s' _ g wc hS ok.small)
            have HS1 := Hid.mk' hS; have HB1 := Hid.mk' hB; have HK1 := Hid.mk' ok
            have hq := ok.quota; have hfew := ok.few
            clear hS hB ok y1 y2 y3 HSX HK HBX
            rename_i hkk
            go_wp2_with fail
            refine HLi.out.mono ?_
            rintro e w4 ⟨al, rfl, hU4, hb4⟩
            have HB4 : Hid (Below w.heap.size w w4) := HB1.out.trans (hb4.mono HB1.out.size)
            have HS4 := Hid.mk' (HS1.out.stay hb4)
            have HU4 := Hid.mk' hU4.isUps
            clear hU4 hb4 HS1 HB1 HLi
            go_wp2
            go_loopw [10, 11] (fun v t wq => ∃ k : Nat, k ≤ s'.l.length ∧ t = .int .i64 k ∧ v = .int .i64 (Sp.used (s'.l.take k) : Int) ∧ Below w4.heap.size w4 wq) (fun _ t _ => s'.l.length - (intOf t).toNat)
            case atStart => exact ⟨0, Nat.zero_le _, rfl, rfl, Below.refl _ _⟩
            case round =>
              obtain ⟨k, hk, rfl, rfl, hBq⟩ := hrel
              have HBq := Hid.mk' hBq
              clear hBq
              have hu := Sp.used_le s'.l k
              by_cases hkl : k < s'.l.length
              · obtain ⟨b2, o2, q, rfl, z0, z1, z2, z3, z4, _⟩ := (HU4.out.stay HBq.out).at_ k hkl
                have hkl' : (k : Int) < s'.l.length := by omega
                have HT : Hid (Sp.used (s'.l.take (k + 1)) = Sp.used (s'.l.take k) + s'.l[k].bytes.length) := Sp.used_take s'.l k hkl
                have hone := Sp.used_one s'.l k hkl
                have hok := HK1.out.all _ (List.getElem_mem hkl)
                have k0 := hok.size0; have k1 := hok.size1; have k2 := hok.long
                have HF := Hid.mk' hok.fits; have HWh := Hid.mk' hok.whole
                have HPr : Hid (∀ j, k = j + 1 → ∃ pid : Int, wr.cell? ⟨b2, o2 + j * 5, none⟩ = some (.int .i64 pid) ∧ pid < s'.l[k].id) := fun j hj => by
                  subst hj
                  obtain ⟨b3, o3, q3, e3, x0, _⟩ := (HU4.out.stay HBq.out).at_ j (by omega)
                  injection e3 with e3; injection e3 with e4 e5; subst e4; subst e5
                  exact ⟨_, x0, HK1.out.prev j hkl⟩
                clear hok
                generalize s'.l[k] = u at *
                generalize Sp.used (s'.l.take k) = uq at *
                have HBu : Hid (Below w4.heap.size w4 (wr.alloc (.cells #[.int .i64 u.id, .int .i64 u.size, .string u.note, .slice q.bo u.bytes.length q.bcap, .int .i64 u.sent] 50))) := HBq.out.alloc HBq.out.size _
                have hbA := (Below.refl _ wr).alloc (Nat.le_refl _) (.cells #[.int .i64 u.id, .int .i64 u.size, .string u.note, .slice q.bo u.bytes.length q.bcap, .int .i64 u.sent] 50)
                have HPu : Hid (∀ j, k = j + 1 → ∃ pid : Int, (wr.alloc (.cells #[.int .i64 u.id, .int .i64 u.size, .string u.note, .slice q.bo u.bytes.length q.bcap, .int .i64 u.sent] 50)).cell? ⟨b2, o2 + j * 5, none⟩ = some (.int .i64 pid) ∧ pid < u.id) := fun j hj => by
                  obtain ⟨pid, x0, x1⟩ := HPr.out j hj
                  exact ⟨pid, by rw [hbA.cell (p := ⟨b2, o2 + j * 5, none⟩) (World.block_lt_of_cell? wr _ x0)]; exact x0, x1⟩
                have v0 : (wr.alloc (.cells #[.int .i64 u.id, .int .i64 u.size, .string u.note, .slice q.bo u.bytes.length q.bcap, .int .i64 u.sent] 50)).cell? ⟨wr.heap.size, 0, none⟩ = some (.int .i64 u.id) := World.cell?_alloc_mark wr _ _ _ 0
                have v1 : (wr.alloc (.cells #[.int .i64 u.id, .int .i64 u.size, .string u.note, .slice q.bo u.bytes.length q.bcap, .int .i64 u.sent] 50)).cell? ⟨wr.heap.size, 1, none⟩ = some (.int .i64 u.size) := World.cell?_alloc_mark wr _ _ _ 1
                have v2 : (wr.alloc (.cells #[.int .i64 u.id, .int .i64 u.size, .string u.note, .slice q.bo u.bytes.length q.bcap, .int .i64 u.sent] 50)).cell? ⟨wr.heap.size, 2, none⟩ = some (.string u.note) := World.cell?_alloc_mark wr _ _ _ 2
                have v3 : (wr.alloc (.cells #[.int .i64 u.id, .int .i64 u.size, .string u.note, .slice q.bo u.bytes.length q.bcap, .int .i64 u.sent] 50)).cell? ⟨wr.heap.size, 3, none⟩ = some (.slice q.bo u.bytes.length q.bcap) := World.cell?_alloc_mark wr _ _ _ 3
                have v4 : (wr.alloc (.cells #[.int .i64 u.id, .int .i64 u.size, .string u.note, .slice q.bo u.bytes.length q.bcap, .int .i64 u.sent] 50)).cell? ⟨wr.heap.size, 4, none⟩ = some (.int .i64 u.sent) := World.cell?_alloc_mark wr _ _ _ 4
                go_upto_region 35 with fail
                clear hbA HPr z0 z1 z2 z3 z4
                generalize wr.alloc (.cells #[.int .i64 u.id, .int .i64 u.size, .string u.note, .slice q.bo u.bytes.length q.bcap, .int .i64 u.sent] 50) = wu at *
                generalize wr.heap.size = ub at *
                go_cut [142] from 86 to 142 (fun t wd => t = .bool false ∧ Below w4.heap.size w4 wd)
                case first =>
                  have t2 : decide ((u.bytes.length : Int) > 2000) = false := by rw [decide_eq_false_iff_not]; omega
                  have t34 : (decide (u.size ≥ 0) = false) ∨ (decide (u.size ≥ 0) = true ∧ decide ((u.bytes.length : Int) > u.size) = false) := by
                    by_cases l1 : 0 ≤ u.size
                    · have := HF.out l1
                      exact Or.inr ⟨by rw [decide_eq_true_eq]; exact l1, by rw [decide_eq_false_iff_not]; omega⟩
                    · exact Or.inl (by rw [decide_eq_false_iff_not]; exact l1)
                  by_cases hs0 : u.sent = 0
                  · have t5 : ((u.sent == 0) = true) := by rw [hs0]; rfl
                    rcases Nat.eq_zero_or_pos k with hk0 | hk0
                    · subst hk0
                      rcases t34 with t3 | ⟨t3, t4⟩
                      all_goals
                        go_quiet (fail)
                        go_wp2
                        go_meet
                        exact ⟨rfl, HBu.out.trans (below_drewN (Below.refl _ _) _)⟩
                    · obtain ⟨j, rfl⟩ : ∃ j, k = j + 1 := ⟨k - 1, by omega⟩
                      obtain ⟨pid, x0, x1⟩ := HPu.out j rfl
                      have t1 : decide (pid ≥ u.id) = false := by rw [decide_eq_false_iff_not]; omega
                      have tk : decide (((j + 1 : Nat) : Int) > 0) = true := by rw [decide_eq_true_eq]; omega
                      have m0 : (0 : Int) ≤ (j : Int) := by omega
                      have m1 : (j : Int) < (s'.l.length : Int) := by omega
                      have m2 : ((j + 1 : Nat) : Int) - 1 = (j : Int) := by omega
                      rcases t34 with t3 | ⟨t3, t4⟩
                      all_goals
                        go_quiet (fail)
                        go_wp2
                        go_meet
                        exact ⟨rfl, HBu.out.trans (below_drewN (Below.refl _ _) _)⟩
                  · have hsz := HWh.out hs0
                    have t3 : decide (u.size ≥ 0) = true := by rw [decide_eq_true_eq]; omega
                    have t4 : decide ((u.bytes.length : Int) > u.size) = false := by rw [decide_eq_false_iff_not]; omega
                    have HKc : Hid (∀ w', Below wu.heap.size wu w' → w'.cell? ⟨ub, 0, none⟩ = some (.int .i64 u.id) ∧ w'.cell? ⟨ub, 1, none⟩ = some (.int .i64 u.size) ∧ w'.cell? ⟨ub, 2, none⟩ = some (.string u.note) ∧ w'.cell? ⟨ub, 3, none⟩ = some (.slice q.bo u.bytes.length q.bcap) ∧ w'.cell? ⟨ub, 4, none⟩ = some (.int .i64 u.sent)) := fun w' hb => ⟨(hb.cell (p := ⟨ub, 0, none⟩) (World.block_lt_of_cell? wu _ v0)).trans v0, (hb.cell (p := ⟨ub, 1, none⟩) (World.block_lt_of_cell? wu _ v1)).trans v1, (hb.cell (p := ⟨ub, 2, none⟩) (World.block_lt_of_cell? wu _ v2)).trans v2, (hb.cell (p := ⟨ub, 3, none⟩) (World.block_lt_of_cell? wu _ v3)).trans v3, (hb.cell (p := ⟨ub, 4, none⟩) (World.block_lt_of_cell? wu _ v4)).trans v4⟩
                    have HWc : Hid (Calls Tryd.prog 35 #[.agg #[.int .i64 u.id, .int .i64 u.size, .string u.note, .slice q.bo u.bytes.length q.bcap, .int .i64 u.sent]] wu.drew fun e w' => e = .returned (.bool true) ∧ Below wu.heap.size wu w') := (whole_any u.id u.size u.sent u.note q.bo u.bytes.length q.bcap wu.drew).mono fun e w' ⟨h1, h2⟩ => ⟨by rw [h1, decide_eq_true hsz], by rw [h2]; exact (below_drew _ _).trans ((Below.refl _ wu.drew).alloc (Nat.le_refl _) _)⟩
                    have t5 : decide (u.sent = 0) = false := by rw [decide_eq_false_iff_not]; exact hs0
                    have t5b : (u.sent == 0) = false := by rw [beq_eq_false_iff_ne]; exact hs0
                    have t5c : (u.sent != 0) = true := by rw [bne_iff_ne]; exact hs0
                    have t5d : decide (u.sent ≠ 0) = true := by rw [decide_eq_true_eq]; exact hs0
                    clear t34 hsz
                    by_cases hk0 : 0 < k
                    · obtain ⟨j, rfl⟩ : ∃ j, k = j + 1 := ⟨k - 1, by omega⟩
                      obtain ⟨pid, x0, x1⟩ := HPu.out j rfl
                      have HKx : Hid (∀ w', Below wu.heap.size wu w' → (w'.cell? ⟨ub, 0, none⟩ = some (.int .i64 u.id) ∧ w'.cell? ⟨ub, 1, none⟩ = some (.int .i64 u.size) ∧ w'.cell? ⟨ub, 2, none⟩ = some (.string u.note) ∧ w'.cell? ⟨ub, 3, none⟩ = some (.slice q.bo u.bytes.length q.bcap) ∧ w'.cell? ⟨ub, 4, none⟩ = some (.int .i64 u.sent)) ∧ w'.cell? ⟨b2, o2 + j * 5, none⟩ = some (.int .i64 pid)) := fun w' hb => ⟨HKc.out w' hb, (hb.cell (p := ⟨b2, o2 + j * 5, none⟩) (World.block_lt_of_cell? wu _ x0)).trans x0⟩
                      have t1 : decide (pid ≥ u.id) = false := by rw [decide_eq_false_iff_not]; omega
                      have tk : decide (((j + 1 : Nat) : Int) > 0) = true := by rw [decide_eq_true_eq]; omega
                      have m0 : (0 : Int) ≤ (j : Int) := by omega
                      have m1 : (j : Int) < (s'.l.length : Int) := by omega
                      have m2 : ((j + 1 : Nat) : Int) - 1 = (j : Int) := by omega
                      have m1n : j < s'.l.length := by omega
                      have mA : IntKind.i64.wrap (((j + 1 : Nat) : Int) - 1) = (j : Int) := by rw [m2]; exact wrap_id (by omega) (by omega)
                      have mB : (j : Int) + 1 - 1 = (j : Int) := by omega
                      have mC : IntKind.i64.wrap ((j : Int) + 1 - 1) = (j : Int) := by rw [mB]; exact wrap_id (by omega) (by omega)
                      have tk2 : decide ((j : Int) + 1 > 0) = true := by rw [decide_eq_true_eq]; omega
                      have mD : IntKind.i64.wrap (j : Int) = (j : Int) := wrap_id (by omega) (by omega)
                      go_region_held3 (fun w' => (w'.cell? ⟨ub, 0, none⟩ = some (.int .i64 u.id) ∧ w'.cell? ⟨ub, 1, none⟩ = some (.int .i64 u.size) ∧ w'.cell? ⟨ub, 2, none⟩ = some (.string u.note) ∧ w'.cell? ⟨ub, 3, none⟩ = some (.slice q.bo u.bytes.length q.bcap) ∧ w'.cell? ⟨ub, 4, none⟩ = some (.int .i64 u.sent)) ∧ w'.cell? ⟨b2, o2 + j * 5, none⟩ = some (.int .i64 pid)) (first | go_keep | exact HKw.out) (first | (go_at_call 35; refine HWc.out.mono ?_; rintro e w7 ⟨rfl, hb7⟩; have HKw := Hid.mk' (HKx.out w7 hb7); have HB7 : Hid (Below w4.heap.size w4 w7) := HBu.out.trans (hb7.mono HBu.out.size); clear hb7))
                      all_goals
                        go_wp2
                        go_meet
                        exact ⟨rfl, HB7.out⟩
                    · have tk : decide ((k : Int) > 0) = false := by rw [decide_eq_false_iff_not]; omega
                      have tk2 : decide (0 < (k : Int)) = false := by rw [decide_eq_false_iff_not]; omega
                      have tk3 : ¬ (0 < (k : Int)) := by omega
                      clear hk0 hkl hkl' hk HPu HT
                      generalize (k : Int) = kz at *
                      refine wp_region_held_drew (S := fun w' => w'.cell? ⟨ub, 0, none⟩ = some (.int .i64 u.id) ∧ w'.cell? ⟨ub, 1, none⟩ = some (.int .i64 u.size) ∧ w'.cell? ⟨ub, 2, none⟩ = some (.string u.note) ∧ w'.cell? ⟨ub, 3, none⟩ = some (.slice q.bo u.bytes.length q.bcap) ∧ w'.cell? ⟨ub, 4, none⟩ = some (.int .i64 u.sent)) (by kernel_rfl) (HKc.out _ (below_drew _ _)) (fun hHeld => ?_)
                      refine wpAnyH_take (i := 0) (oi := { dst := some 101, op := Op.move (Operand.tmp 11), type := 3, pos := "law10.go:111", after := #[], guard := none }) (v := ?_) rfl (by kernel_rfl) (by kernel_rfl) (by kernel_rfl) (fun _ _ _ h => h) (Or.inl ⟨by rfl, ?_⟩) (by assumption) ?_
                      rotate_left
                      · intro w hSw
                        go_simp
                        try (with_reducible rfl)
                      try simp only [Act.put, List.setIfInBounds_toArray, List.set_cons_zero, List.set_cons_succ]
                      refine wpAnyH_take (i := 1) (oi := { dst := some 102, op := Op.binOp BinOp.gtr 3 (Operand.tmp 101) (Operand.const (Value.int IntKind.i64 0)) 3, type := 4, pos := "law10.go:111", after := #[{ on := 0, ground := Ground.data }], guard := none }) (v := ?_) rfl (by kernel_rfl) (by kernel_rfl) (by kernel_rfl) (fun _ _ _ h => h) (Or.inl ⟨by rfl, ?_⟩) (by assumption) ?_
                      rotate_left
                      · intro w hSw
                        go_simp
                        try (with_reducible rfl)
                      try simp only [Act.put, List.setIfInBounds_toArray, List.set_cons_zero, List.set_cons_succ]
                      refine wpAnyH_take (i := 2) (oi := { dst := some 103, op := Op.move (Operand.tmp 102), type := 4, pos := "law10.go:111", after := #[{ on := 1, ground := Ground.data }], guard := none }) (v := ?_) rfl (by kernel_rfl) (by kernel_rfl) (by kernel_rfl) (fun _ _ _ h => h) (Or.inl ⟨by rfl, ?_⟩) (by assumption) ?_
                      rotate_left
                      · intro w hSw
                        go_simp
                        try (with_reducible rfl)
                      try simp only [Act.put, List.setIfInBounds_toArray, List.set_cons_zero, List.set_cons_succ]
                      refine wpAnyH_take (i := 3) (oi := { dst := some 104, op := Op.move (Operand.tmp 9), type := 35, pos := "law10.go:111", after := #[{ on := 2, ground := Ground.guard }], guard := some (2, true) }) (v := undef) rfl (by kernel_rfl) (by kernel_rfl) (by kernel_rfl) (fun _ _ _ h => h) (Or.inr ⟨by rfl, rfl⟩) (by assumption) ?_
                      try simp only [Act.put, List.setIfInBounds_toArray, List.set_cons_zero, List.set_cons_succ]
                      refine wpAnyH_take (i := 4) (oi := { dst := some 105, op := Op.move (Operand.tmp 11), type := 3, pos := "law10.go:111", after := #[{ on := 2, ground := Ground.guard }], guard := some (2, true) }) (v := undef) rfl (by kernel_rfl) (by kernel_rfl) (by kernel_rfl) (fun _ _ _ h => h) (Or.inr ⟨by rfl, rfl⟩) (by assumption) ?_
                      try simp only [Act.put, List.setIfInBounds_toArray, List.set_cons_zero, List.set_cons_succ]
                      refine wpAnyH_take (i := 5) (oi := { dst := some 106, op := Op.binOp BinOp.sub 3 (Operand.tmp 105) (Operand.const (Value.int IntKind.i64 1)) 3, type := 3, pos := "law10.go:111", after := #[{ on := 4, ground := Ground.data }, { on := 2, ground := Ground.guard }], guard := some (2, true) }) (v := undef) rfl (by kernel_rfl) (by kernel_rfl) (by kernel_rfl) (fun _ _ _ h => h) (Or.inr ⟨by rfl, rfl⟩) (by assumption) ?_
                      try simp only [Act.put, List.setIfInBounds_toArray, List.set_cons_zero, List.set_cons_succ]
                      refine wpAnyH_take (i := 6) (oi := { dst := some 107, op := Op.indexAddr 35 (Operand.tmp 104) (Operand.tmp 106), type := 0, pos := "law10.go:111", after := #[{ on := 3, ground := Ground.data }, { on := 5, ground := Ground.data }, { on := 2, ground := Ground.guard }], guard := some (2, true) }) (v := undef) rfl (by kernel_rfl) (by kernel_rfl) (by kernel_rfl) (fun _ _ _ h => h) (Or.inr ⟨by rfl, rfl⟩) (by assumption) ?_
                      try simp only [Act.put, List.setIfInBounds_toArray, List.set_cons_zero, List.set_cons_succ]
                      refine wpAnyH_take (i := 7) (oi := { dst := some 108, op := Op.fieldAddr 50 (Operand.tmp 107) 0, type := 0, pos := "law10.go:111", after := #[{ on := 6, ground := Ground.data }, { on := 2, ground := Ground.guard }], guard := some (2, true) }) (v := undef) rfl (by kernel_rfl) (by kernel_rfl) (by kernel_rfl) (fun _ _ _ h => h) (Or.inr ⟨by rfl, rfl⟩) (by assumption) ?_
                      try simp only [Act.put, List.setIfInBounds_toArray, List.set_cons_zero, List.set_cons_succ]
                      refine wpAnyH_take (i := 8) (oi := { dst := some 109, op := Op.load 3 (Operand.tmp 108), type := 3, pos := "law10.go:111", after := #[{ on := 7, ground := Ground.data }, { on := 2, ground := Ground.guard }], guard := some (2, true) }) (v := undef) rfl (by kernel_rfl) (by kernel_rfl) (by kernel_rfl) (fun _ _ _ h => h) (Or.inr ⟨by rfl, rfl⟩) (by assumption) ?_
                      try simp only [Act.put, List.setIfInBounds_toArray, List.set_cons_zero, List.set_cons_succ]
                      refine wpAnyH_take (i := 9) (oi := { dst := some 110, op := Op.fieldAddr 50 (Operand.tmp 12) 0, type := 0, pos := "law10.go:111", after := #[{ on := 2, ground := Ground.guard }], guard := some (2, true) }) (v := undef) rfl (by kernel_rfl) (by kernel_rfl) (by kernel_rfl) (fun _ _ _ h => h) (Or.inr ⟨by rfl, rfl⟩) (by assumption) ?_
                      try simp only [Act.put, List.setIfInBounds_toArray, List.set_cons_zero, List.set_cons_succ]
                      refine wpAnyH_take (i := 10) (oi := { dst := some 111, op := Op.load 3 (Operand.tmp 110), type := 3, pos := "law10.go:111", after := #[{ on := 9, ground := Ground.data }, { on := 2, ground := Ground.guard }], guard := some (2, true) }) (v := undef) rfl (by kernel_rfl) (by kernel_rfl) (by kernel_rfl) (fun _ _ _ h => h) (Or.inr ⟨by rfl, rfl⟩) (by assumption) ?_
                      try simp only [Act.put, List.setIfInBounds_toArray, List.set_cons_zero, List.set_cons_succ]
                      refine wpAnyH_take (i := 11) (oi := { dst := some 112, op := Op.binOp BinOp.geq 3 (Operand.tmp 109) (Operand.tmp 111) 3, type := 4, pos := "law10.go:111", after := #[{ on := 8, ground := Ground.data }, { on := 10, ground := Ground.data }, { on := 2, ground := Ground.guard }], guard := some (2, true) }) (v := undef) rfl (by kernel_rfl) (by kernel_rfl) (by kernel_rfl) (fun _ _ _ h => h) (Or.inr ⟨by rfl, rfl⟩) (by assumption) ?_
                      try simp only [Act.put, List.setIfInBounds_toArray, List.set_cons_zero, List.set_cons_succ]
                      refine wpAnyH_take (i := 12) (oi := { dst := some 113, op := Op.pick (Operand.tmp 103) (Operand.tmp 112) (Operand.const (Value.bool false)), type := 4, pos := "law10.go:111", after := #[{ on := 2, ground := Ground.data }, { on := 11, ground := Ground.data }], guard := none }) (v := ?_) rfl (by kernel_rfl) (by kernel_rfl) (by kernel_rfl) (fun _ _ _ h => h) (Or.inl ⟨by rfl, ?_⟩) (by assumption) ?_
                      rotate_left
                      · intro w hSw
                        go_simp
                        try (with_reducible rfl)
                      try simp only [Act.put, List.setIfInBounds_toArray, List.set_cons_zero, List.set_cons_succ]
                      refine wpAnyH_take (i := 13) (oi := { dst := some 114, op := Op.move (Operand.tmp 113), type := 4, pos := "law10.go:111", after := #[{ on := 12, ground := Ground.data }, { on := 2, ground := Ground.chain }], guard := none }) (v := ?_) rfl (by kernel_rfl) (by kernel_rfl) (by kernel_rfl) (fun _ _ _ h => h) (Or.inl ⟨by rfl, ?_⟩) (by assumption) ?_
                      rotate_left
                      · intro w hSw
                        go_simp
                        try (with_reducible rfl)
                      try simp only [Act.put, List.setIfInBounds_toArray, List.set_cons_zero, List.set_cons_succ]
                      refine wpAnyH_take (i := 14) (oi := { dst := some 115, op := Op.fieldAddr 50 (Operand.tmp 12) 3, type := 0, pos := "law10.go:111", after := #[{ on := 13, ground := Ground.guard }], guard := some (13, false) }) (v := ?_) rfl (by kernel_rfl) (by kernel_rfl) (by kernel_rfl) (fun _ _ _ h => h) (Or.inl ⟨by rfl, ?_⟩) (by assumption) ?_
                      rotate_left
                      · intro w hSw
                        go_simp
                        try (with_reducible rfl)
                      try simp only [Act.put, List.setIfInBounds_toArray, List.set_cons_zero, List.set_cons_succ]
                      refine wpAnyH_take (i := 15) (oi := { dst := some 116, op := Op.load 25 (Operand.tmp 115), type := 25, pos := "law10.go:111", after := #[{ on := 14, ground := Ground.data }, { on := 13, ground := Ground.guard }], guard := some (13, false) }) (v := ?_) rfl (by kernel_rfl) (by kernel_rfl) (by kernel_rfl) (fun _ _ _ h => h) (Or.inl ⟨by rfl, ?_⟩) (by assumption) ?_
                      rotate_left
                      · intro w hSw
                        go_simp
                        try (with_reducible rfl)
                      try simp only [Act.put, List.setIfInBounds_toArray, List.set_cons_zero, List.set_cons_succ]
                      refine wpAnyH_take (i := 16) (oi := { dst := some 117, op := Op.call { callee := Callee.builtin Builtin.len, args := #[Operand.tmp 116], argTypes := #[25] }, type := 3, pos := "law10.go:111", after := #[{ on := 15, ground := Ground.data }, { on := 13, ground := Ground.guard }], guard := some (13, false) }) (v := ?_) rfl (by kernel_rfl) (by kernel_rfl) (by kernel_rfl) (fun _ _ _ h => h) (Or.inl ⟨by rfl, ?_⟩) (by assumption) ?_
                      rotate_left
                      · intro w hSw
                        go_simp
                        try (with_reducible rfl)
                      try simp only [Act.put, List.setIfInBounds_toArray, List.set_cons_zero, List.set_cons_succ]
                      refine wpAnyH_take (i := 17) (oi := { dst := some 118, op := Op.binOp BinOp.gtr 3 (Operand.tmp 117) (Operand.const (Value.int IntKind.i64 2000)) 3, type := 4, pos := "law10.go:111", after := #[{ on := 16, ground := Ground.data }, { on := 13, ground := Ground.guard }], guard := some (13, false) }) (v := ?_) rfl (by kernel_rfl) (by kernel_rfl) (by kernel_rfl) (fun _ _ _ h => h) (Or.inl ⟨by rfl, ?_⟩) (by assumption) ?_
                      rotate_left
                      · intro w hSw
                        go_simp
                        try (with_reducible rfl)
                      try simp only [Act.put, List.setIfInBounds_toArray, List.set_cons_zero, List.set_cons_succ]
                      refine wpAnyH_take (i := 18) (oi := { dst := some 119, op := Op.pick (Operand.tmp 114) (Operand.const (Value.bool true)) (Operand.tmp 118), type := 4, pos := "law10.go:111", after := #[{ on := 13, ground := Ground.data }, { on := 17, ground := Ground.data }], guard := none }) (v := ?_) rfl (by kernel_rfl) (by kernel_rfl) (by kernel_rfl) (fun _ _ _ h => h) (Or.inl ⟨by rfl, ?_⟩) (by assumption) ?_
                      rotate_left
                      · intro w hSw
                        go_simp
                        try (with_reducible rfl)
                      try simp only [Act.put, List.setIfInBounds_toArray, List.set_cons_zero, List.set_cons_succ]
                      refine wpAnyH_take (i := 19) (oi := { dst := some 120, op := Op.move (Operand.tmp 119), type := 4, pos := "law10.go:111", after := #[{ on := 18, ground := Ground.data }, { on := 13, ground := Ground.chain }], guard := none }) (v := ?_) rfl (by kernel_rfl) (by kernel_rfl) (by kernel_rfl) (fun _ _ _ h => h) (Or.inl ⟨by rfl, ?_⟩) (by assumption) ?_
                      rotate_left
                      · intro w hSw
                        go_simp
                        try (with_reducible rfl)
                      try simp only [Act.put, List.setIfInBounds_toArray, List.set_cons_zero, List.set_cons_succ]
                      refine wpAnyH_take (i := 20) (oi := { dst := some 121, op := Op.fieldAddr 50 (Operand.tmp 12) 1, type := 0, pos := "law10.go:111", after := #[{ on := 19, ground := Ground.guard }], guard := some (19, false) }) (v := ?_) rfl (by kernel_rfl) (by kernel_rfl) (by kernel_rfl) (fun _ _ _ h => h) (Or.inl ⟨by rfl, ?_⟩) (by assumption) ?_
                      rotate_left
                      · intro w hSw
                        go_simp
                        try (with_reducible rfl)
                      try simp only [Act.put, List.setIfInBounds_toArray, List.set_cons_zero, List.set_cons_succ]
                      refine wpAnyH_take (i := 21) (oi := { dst := some 122, op := Op.load 3 (Operand.tmp 121), type := 3, pos := "law10.go:111", after := #[{ on := 20, ground := Ground.data }, { on := 19, ground := Ground.guard }], guard := some (19, false) }) (v := ?_) rfl (by kernel_rfl) (by kernel_rfl) (by kernel_rfl) (fun _ _ _ h => h) (Or.inl ⟨by rfl, ?_⟩) (by assumption) ?_
                      rotate_left
                      · intro w hSw
                        go_simp
                        try (with_reducible rfl)
                      try simp only [Act.put, List.setIfInBounds_toArray, List.set_cons_zero, List.set_cons_succ]
                      refine wpAnyH_take (i := 22) (oi := { dst := some 123, op := Op.binOp BinOp.geq 3 (Operand.tmp 122) (Operand.const (Value.int IntKind.i64 0)) 3, type := 4, pos := "law10.go:111", after := #[{ on := 21, ground := Ground.data }, { on := 19, ground := Ground.guard }], guard := some (19, false) }) (v := ?_) rfl (by kernel_rfl) (by kernel_rfl) (by kernel_rfl) (fun _ _ _ h => h) (Or.inl ⟨by rfl, ?_⟩) (by assumption) ?_
                      rotate_left
                      · intro w hSw
                        go_simp
                        try (with_reducible rfl)
                      try simp only [Act.put, List.setIfInBounds_toArray, List.set_cons_zero, List.set_cons_succ]
                      refine wpAnyH_take (i := 23) (oi := { dst := some 124, op := Op.move (Operand.tmp 123), type := 4, pos := "law10.go:111", after := #[{ on := 22, ground := Ground.data }, { on := 19, ground := Ground.chain }, { on := 19, ground := Ground.guard }], guard := some (19, false) }) (v := ?_) rfl (by kernel_rfl) (by kernel_rfl) (by kernel_rfl) (fun _ _ _ h => h) (Or.inl ⟨by rfl, ?_⟩) (by assumption) ?_
                      rotate_left
                      · intro w hSw
                        go_simp
                        try (with_reducible rfl)
                      try simp only [Act.put, List.setIfInBounds_toArray, List.set_cons_zero, List.set_cons_succ]
                      refine wpAnyH_take (i := 24) (oi := { dst := some 125, op := Op.fieldAddr 50 (Operand.tmp 12) 3, type := 0, pos := "law10.go:111", after := #[{ on := 23, ground := Ground.guard }], guard := some (23, true) }) (v := ?_) rfl (by kernel_rfl) (by kernel_rfl) (by kernel_rfl) (fun _ _ _ h => h) (Or.inl ⟨by rfl, ?_⟩) (by assumption) ?_
                      rotate_left
                      · intro w hSw
                        go_simp
                        try (with_reducible rfl)
                      try simp only [Act.put, List.setIfInBounds_toArray, List.set_cons_zero, List.set_cons_succ]
                      refine wpAnyH_take (i := 25) (oi := { dst := some 126, op := Op.load 25 (Operand.tmp 125), type := 25, pos := "law10.go:111", after := #[{ on := 24, ground := Ground.data }, { on := 23, ground := Ground.guard }], guard := some (23, true) }) (v := ?_) rfl (by kernel_rfl) (by kernel_rfl) (by kernel_rfl) (fun _ _ _ h => h) (Or.inl ⟨by rfl, ?_⟩) (by assumption) ?_
                      rotate_left
                      · intro w hSw
                        go_simp
                        try (with_reducible rfl)
                      try simp only [Act.put, List.setIfInBounds_toArray, List.set_cons_zero, List.set_cons_succ]
                      refine wpAnyH_take (i := 26) (oi := { dst := some 127, op := Op.call { callee := Callee.builtin Builtin.len, args := #[Operand.tmp 126], argTypes := #[25] }, type := 3, pos := "law10.go:111", after := #[{ on := 25, ground := Ground.data }, { on := 23, ground := Ground.guard }], guard := some (23, true) }) (v := ?_) rfl (by kernel_rfl) (by kernel_rfl) (by kernel_rfl) (fun _ _ _ h => h) (Or.inl ⟨by rfl, ?_⟩) (by assumption) ?_
                      rotate_left
                      · intro w hSw
                        go_simp
                        try (with_reducible rfl)
                      try simp only [Act.put, List.setIfInBounds_toArray, List.set_cons_zero, List.set_cons_succ]
                      refine wpAnyH_take (i := 27) (oi := { dst := some 128, op := Op.fieldAddr 50 (Operand.tmp 12) 1, type := 0, pos := "law10.go:111", after := #[{ on := 23, ground := Ground.guard }], guard := some (23, true) }) (v := ?_) rfl (by kernel_rfl) (by kernel_rfl) (by kernel_rfl) (fun _ _ _ h => h) (Or.inl ⟨by rfl, ?_⟩) (by assumption) ?_
                      rotate_left
                      · intro w hSw
                        go_simp
                        try (with_reducible rfl)
                      try simp only [Act.put, List.setIfInBounds_toArray, List.set_cons_zero, List.set_cons_succ]
                      refine wpAnyH_take (i := 28) (oi := { dst := some 129, op := Op.load 3 (Operand.tmp 128), type := 3, pos := "law10.go:111", after := #[{ on := 27, ground := Ground.data }, { on := 23, ground := Ground.guard }], guard := some (23, true) }) (v := ?_) rfl (by kernel_rfl) (by kernel_rfl) (by kernel_rfl) (fun _ _ _ h => h) (Or.inl ⟨by rfl, ?_⟩) (by assumption) ?_
                      rotate_left
                      · intro w hSw
                        go_simp
                        try (with_reducible rfl)
                      try simp only [Act.put, List.setIfInBounds_toArray, List.set_cons_zero, List.set_cons_succ]
                      refine wpAnyH_take (i := 29) (oi := { dst := some 130, op := Op.binOp BinOp.gtr 3 (Operand.tmp 127) (Operand.tmp 129) 3, type := 4, pos := "law10.go:111", after := #[{ on := 26, ground := Ground.data }, { on := 28, ground := Ground.data }, { on := 23, ground := Ground.guard }], guard := some (23, true) }) (v := ?_) rfl (by kernel_rfl) (by kernel_rfl) (by kernel_rfl) (fun _ _ _ h => h) (Or.inl ⟨by rfl, ?_⟩) (by assumption) ?_
                      rotate_left
                      · intro w hSw
                        go_simp
                        try (with_reducible rfl)
                      try simp only [Act.put, List.setIfInBounds_toArray, List.set_cons_zero, List.set_cons_succ]
                      refine wpAnyH_take (i := 30) (oi := { dst := some 131, op := Op.pick (Operand.tmp 124) (Operand.tmp 130) (Operand.const (Value.bool false)), type := 4, pos := "law10.go:111", after := #[{ on := 23, ground := Ground.data }, { on := 29, ground := Ground.data }, { on := 19, ground := Ground.guard }], guard := some (19, false) }) (v := ?_) rfl (by kernel_rfl) (by kernel_rfl) (by kernel_rfl) (fun _ _ _ h => h) (Or.inl ⟨by rfl, ?_⟩) (by assumption) ?_
                      rotate_left
                      · intro w hSw
                        go_simp
                        try (with_reducible rfl)
                      try simp only [Act.put, List.setIfInBounds_toArray, List.set_cons_zero, List.set_cons_succ]
                      refine wpAnyH_take (i := 31) (oi := { dst := some 132, op := Op.pick (Operand.tmp 120) (Operand.const (Value.bool true)) (Operand.tmp 131), type := 4, pos := "law10.go:111", after := #[{ on := 19, ground := Ground.data }, { on := 30, ground := Ground.data }], guard := none }) (v := ?_) rfl (by kernel_rfl) (by kernel_rfl) (by kernel_rfl) (fun _ _ _ h => h) (Or.inl ⟨by rfl, ?_⟩) (by assumption) ?_
                      rotate_left
                      · intro w hSw
                        go_simp
                        try (with_reducible rfl)
                      try simp only [Act.put, List.setIfInBounds_toArray, List.set_cons_zero, List.set_cons_succ]
                      refine wpAnyH_take (i := 32) (oi := { dst := some 133, op := Op.move (Operand.tmp 132), type := 4, pos := "law10.go:111", after := #[{ on := 31, ground := Ground.data }, { on := 23, ground := Ground.chain }], guard := none }) (v := ?_) rfl (by kernel_rfl) (by kernel_rfl) (by kernel_rfl) (fun _ _ _ h => h) (Or.inl ⟨by rfl, ?_⟩) (by assumption) ?_
                      rotate_left
                      · intro w hSw
                        go_simp
                        try (with_reducible rfl)
                      try simp only [Act.put, List.setIfInBounds_toArray, List.set_cons_zero, List.set_cons_succ]
                      refine wpAnyH_take (i := 33) (oi := { dst := some 134, op := Op.fieldAddr 50 (Operand.tmp 12) 4, type := 0, pos := "law10.go:111", after := #[{ on := 32, ground := Ground.guard }], guard := some (32, false) }) (v := ?_) rfl (by kernel_rfl) (by kernel_rfl) (by kernel_rfl) (fun _ _ _ h => h) (Or.inl ⟨by rfl, ?_⟩) (by assumption) ?_
                      rotate_left
                      · intro w hSw
                        go_simp
                        try (with_reducible rfl)
                      try simp only [Act.put, List.setIfInBounds_toArray, List.set_cons_zero, List.set_cons_succ]
                      refine wpAnyH_take (i := 34) (oi := { dst := some 135, op := Op.load 3 (Operand.tmp 134), type := 3, pos := "law10.go:111", after := #[{ on := 33, ground := Ground.data }, { on := 32, ground := Ground.guard }], guard := some (32, false) }) (v := ?_) rfl (by kernel_rfl) (by kernel_rfl) (by kernel_rfl) (fun _ _ _ h => h) (Or.inl ⟨by rfl, ?_⟩) (by assumption) ?_
                      rotate_left
                      · intro w hSw
                        go_simp
                        try (with_reducible rfl)
                      try simp only [Act.put, List.setIfInBounds_toArray, List.set_cons_zero, List.set_cons_succ]
                      refine wpAnyH_take (i := 35) (oi := { dst := some 136, op := Op.binOp BinOp.neq 3 (Operand.tmp 135) (Operand.const (Value.int IntKind.i64 0)) 3, type := 4, pos := "law10.go:111", after := #[{ on := 34, ground := Ground.data }, { on := 32, ground := Ground.guard }], guard := some (32, false) }) (v := ?_) rfl (by kernel_rfl) (by kernel_rfl) (by kernel_rfl) (fun _ _ _ h => h) (Or.inl ⟨by rfl, ?_⟩) (by assumption) ?_
                      rotate_left
                      · intro w hSw
                        go_simp
                        try (with_reducible rfl)
                      try simp only [Act.put, List.setIfInBounds_toArray, List.set_cons_zero, List.set_cons_succ]
                      refine wpAnyH_take (i := 36) (oi := { dst := some 137, op := Op.move (Operand.tmp 136), type := 4, pos := "law10.go:111", after := #[{ on := 35, ground := Ground.data }, { on := 32, ground := Ground.chain }, { on := 32, ground := Ground.guard }], guard := some (32, false) }) (v := ?_) rfl (by kernel_rfl) (by kernel_rfl) (by kernel_rfl) (fun _ _ _ h => h) (Or.inl ⟨by rfl, ?_⟩) (by assumption) ?_
                      rotate_left
                      · intro w hSw
                        go_simp
                        try (with_reducible rfl)
                      try simp only [Act.put, List.setIfInBounds_toArray, List.set_cons_zero, List.set_cons_succ]
                      refine wpAnyH_take (i := 37) (oi := { dst := some 138, op := Op.load 50 (Operand.tmp 12), type := 50, pos := "law10.go:111", after := #[{ on := 36, ground := Ground.guard }], guard := some (36, true) }) (v := ?_) rfl (by kernel_rfl) (by kernel_rfl) (by kernel_rfl) (fun _ _ _ h => h) (Or.inl ⟨by rfl, ?_⟩) (by assumption) ?_
                      rotate_left
                      · intro w hSw
                        go_simp
                        try (with_reducible rfl)
                      try simp only [Act.put, List.setIfInBounds_toArray, List.set_cons_zero, List.set_cons_succ]
                      refine wpAnyH_ready (rs := [38]) (by kernel_rfl) (by simp) ?_
                      refine AllReadyH.cons (o := { dst := some 139, op := Op.call { callee := Callee.value (Operand.func 35), args := #[Operand.tmp 138], argTypes := #[50] }, type := 4, pos := "law10.go:111", after := #[{ on := 37, ground := Ground.data }, { on := 36, ground := Ground.chain }, { on := 36, ground := Ground.guard }], guard := some (36, true) }) rfl (fun K hK => ?_) AllReadyH.nil
                      go_simp
                      refine HWc.out.mono ?_
                      rintro e w7 ⟨rfl, hb7⟩
                      have HKw := Hid.mk' (HKc.out w7 hb7)
                      have HB7 : Hid (Below w4.heap.size w4 w7) := HBu.out.trans (hb7.mono HBu.out.size)
                      clear hb7 hHeld
                      refine hK.out _ _ HKw.out (fun hHeld => ?_)
                      clear hK K
                      try simp only [Act.put, List.setIfInBounds_toArray, List.set_cons_zero, List.set_cons_succ]
                      refine wpAnyH_take (i := 39) (oi := { dst := some 140, op := Op.unOp UnOp.not 4 (Operand.tmp 139), type := 4, pos := "law10.go:111", after := #[{ on := 38, ground := Ground.data }, { on := 36, ground := Ground.guard }], guard := some (36, true) }) (v := ?_) rfl (by kernel_rfl) (by kernel_rfl) (by kernel_rfl) (fun _ _ _ h => h) (Or.inl ⟨by rfl, ?_⟩) (by assumption) ?_
                      rotate_left
                      · intro w hSw
                        go_simp
                        try (with_reducible rfl)
                      try simp only [Act.put, List.setIfInBounds_toArray, List.set_cons_zero, List.set_cons_succ]
                      refine wpAnyH_take (i := 40) (oi := { dst := some 141, op := Op.pick (Operand.tmp 137) (Operand.tmp 140) (Operand.const (Value.bool false)), type := 4, pos := "law10.go:111", after := #[{ on := 36, ground := Ground.data }, { on := 39, ground := Ground.data }, { on := 32, ground := Ground.guard }], guard := some (32, false) }) (v := ?_) rfl (by kernel_rfl) (by kernel_rfl) (by kernel_rfl) (fun _ _ _ h => h) (Or.inl ⟨by rfl, ?_⟩) (by assumption) ?_
                      rotate_left
                      · intro w hSw
                        go_simp
                        try (with_reducible rfl)
                      try simp only [Act.put, List.setIfInBounds_toArray, List.set_cons_zero, List.set_cons_succ]
                      refine wpAnyH_take (i := 41) (oi := { dst := some 142, op := Op.pick (Operand.tmp 133) (Operand.const (Value.bool true)) (Operand.tmp 141), type := 4, pos := "law10.go:111", after := #[{ on := 32, ground := Ground.data }, { on := 40, ground := Ground.data }], guard := none }) (v := ?_) rfl (by kernel_rfl) (by kernel_rfl) (by kernel_rfl) (fun _ _ _ h => h) (Or.inl ⟨by rfl, ?_⟩) (by assumption) ?_
                      rotate_left
                      · intro w hSw
                        go_simp
                        try (with_reducible rfl)
                      try simp only [Act.put, List.setIfInBounds_toArray, List.set_cons_zero, List.set_cons_succ]
                      refine wpAnyH_done (by kernel_rfl) ?_ _
                      go_wp2
                      go_meet
                      exact ⟨rfl, HB7.out⟩
                case rest =>
                  obtain ⟨rfl, hBd⟩ := hcut
                  have HBd := Hid.mk' hBd
                  clear hBd
                  go_wp2
                  go_roundw
                  case rel => exact ⟨k + 1, by omega, by go_num, by rw [HT.out]; go_num, HBd.out⟩
                  case measure => simp [intOf]; omega
              · obtain rfl : k = s'.l.length := by omega
                have HUs := Hid.mk' (usedU_any s' _ g wr (HS4.out.stay HBq.out) (by omega) (by omega))
                rw [List.take_length]
                have tq : decide ((Sp.used s'.l : Int) > 6000) = false := by rw [decide_eq_false_iff_not]; omega
                have tm : decide ((s'.l.length : Int) > 12) = false := by rw [decide_eq_false_iff_not]; omega
                generalize Sp.used s'.l = uu at *
                go_wp2_with fail
                refine HUs.out.mono ?_
                rintro e w6 ⟨rfl, hb6⟩
                have HS6 := Hid.mk' ((HS4.out.stay HBq.out).stay hb6)
                have HB6 : Hid (Below w.heap.size w w6) := (HB4.out.trans (HBq.out.mono HB4.out.size)).trans (hb6.mono (Nat.le_trans HB4.out.size HBq.out.size))
                clear hb6
                go_wp2
                go_roundw
                case rel => exact ⟨i + 1, s', by omega, by go_num, rfl, HS6.out, HK1.out, by omega, HB6.out⟩
                case measure => simp [intOf]; omega
      · obtain rfl : i = l.length := by omega
        go_wp2
        go_ret
        exact ⟨rfl, HB.out⟩
end Go.Proofs.YtmgjcmlcincnhadDoor
