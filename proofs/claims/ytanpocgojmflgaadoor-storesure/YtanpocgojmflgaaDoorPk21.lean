/- Small texts, one behind the other: LwStB, StLawS. -/
import Derived.Test.YtanpocgojmflgaaDoorPk20
import Derived.Lib.SlBytesConst
import Derived.Test.YtanpocgojmflgaaDoorLwStS
import Derived.Test.YtanpocgojmflgaaDoorPk11
import Derived.Test.YtanpocgojmflgaaDoorPk17
import Derived.Test.YtanpocgojmflgaaDoorPk13
import Derived.Test.YtanpocgojmflgaaDoorPk7
import Derived.Test.YtanpocgojmflgaaDoorPk4
import Derived.Deep.RegionHeld3
import Derived.Deep.DeepCutAuto
/- The statements' own: storeBegun, walked. -/
namespace Go.Proofs.YtanpocgojmflgaaDoor
open Go.RowKit

def tb0 : Sp.St := ⟨[⟨1, 3, ⟨#[]⟩, [], 0⟩], 1⟩
def tb1 : Sp.St := ⟨[⟨1, 3, ⟨#[]⟩, [97, 98], 0⟩], 1⟩
def te1 : Jn.E := ⟨1, 1, 3, []⟩
def te2 : Jn.E := ⟨2, 1, 0, [97, 98]⟩
theorem tb_made : Sr.made Sp.new 3 ⟨#[]⟩ = (tb0, 0) := by
  unfold Sr.made Sp.create
  rw [if_neg (by decide), if_neg (by decide), if_neg, if_neg (by decide)]
  · rfl
  · decide
theorem te1_enc : Jn.enc te1 = [4, 2, 2, 4] := by
  simp [Jn.enc, Jn.inn, Jn.head, Jn.nb, te1, Jn.num_small]
theorem te2_enc : Jn.enc te2 = [6, 3, 2, 1, 97, 98] := by
  simp [Jn.enc, Jn.inn, Jn.head, Jn.nb, te2, Jn.num_small]
def ts1 : Sr.Sh := ⟨tb0, [4, 2, 2, 4], 0⟩
def ts2 : Sr.Sh := ⟨tb0, [4, 2, 2, 4], 4⟩
def ts3 : Sr.Sh := ⟨tb1, [4, 2, 2, 4, 6, 3, 2, 1, 97, 98], 4⟩
theorem ts_1 : Sr.create Sr.new 3 ⟨#[]⟩ = (ts1, 0) := by
  have e : (⟨1, Sr.new.h.last + 1, 3, (⟨#[]⟩ : ByteArray).data.toList⟩ : Jn.E) = te1 := rfl
  have hm : Sr.made Sr.new.h 3 ⟨#[]⟩ = (tb0, 0) := tb_made
  unfold Sr.create
  rw [e, hm, Sr.write_yes rfl (by decide) (by rw [te1_enc]; decide), te1_enc]
  rfl
theorem ts_2 : Sr.sync ts1 = ts2 := rfl
theorem ts_3 : Sr.append ts2 1 0 [97, 98] = (ts3, 0) := by
  have e : (⟨2, 1, 0, [97, 98]⟩ : Jn.E) = te2 := rfl
  have hm : Sp.append ts2.h 1 0 [97, 98] = (tb1, 0) := by rfl
  unfold Sr.append
  rw [e, hm, Sr.write_yes rfl (by decide) (by rw [te2_enc]; decide), te2_enc]
  rfl
theorem ts_4 : Sr.crash ts3 0 = ts2 := by
  have hl : Sr.left ts3 0 = 4 := by decide
  have hd : Jn.dec ([4, 2, 2, 4] : List UInt8) = ([te1], 4) := by
    have := Jn.dec_some (Jn.one_enc (e := te1) (by decide) [])
    rw [te1_enc] at this
    simpa [Jn.dec_none Jn.one_nil] using this
  have ht : ts3.log.take 4 = [4, 2, 2, 4] := rfl
  unfold Sr.crash
  rw [hl, ht, hd]
  have hp : Sr.playAll Sp.new [te1] = tb0 := by
    show (Sr.played Sp.new te1).1 = tb0
    have : Sr.played Sp.new te1 = Sr.made Sp.new 3 ⟨#[]⟩ := rfl
    rw [this, tb_made]
  simp only
  rw [hp]
  rfl
theorem tk1 : Sr.Ok ts1 := by have := Sr.Ok.create Sr.Ok.new 3 ⟨#[]⟩; rw [ts_1] at this; exact this
theorem tk2 : Sr.Ok ts2 := tk1.sync
theorem tk3 : Sr.Ok ts3 := by have := tk2.append 1 0 [97, 98]; rw [ts_3] at this; exact this
section
variable {B : Nat} {w w' : World} {g : Nat}
/-- a store all of whose memory is new -/
abbrev StNew (B : Nat) (w : World) (g : Nat) (s : Sr.Sh) : Prop := StAt w (fun k => B ≤ k) g s
theorem StAt.new_ {s : Sr.Sh} (h : StAt w' (orNew (fun k => B ≤ k) w) g s) (ht : Turns (fun k => B ≤ k) w w') (hB : B ≤ w.heap.size) : StNew B w' g s ∧ Below B w w' := by
  refine ⟨h.mono (fun k _ e => ?_), ht.below (fun k e => e) hB⟩
  rcases e with e | e
  · exact e
  · exact Nat.le_trans hB e
end
set_option maxRecDepth 100000 in
set_option maxHeartbeats 2000000 in
theorem storeBegun_any (w : World) :
    Calls Tryd.prog 5 #[] w fun e w' => e = .returned (.bool true) ∧ Below w.heap.size w w' := by
  have H0 := Hid.mk' (newSt_any w)
  have H1 : Hid (∀ W g, Below w.heap.size w W → StNew w.heap.size W g Sr.new → Calls Tryd.prog 18 #[.pointer (some ⟨g, 0, none⟩), .int .i64 3, .string ⟨#[]⟩] W fun e w' => e = .returned (.tuple #[.int .i64 1, .int .i64 0]) ∧ StNew w.heap.size w' g ts1 ∧ Below w.heap.size w w') := fun W g hW hS => (createSt_any hS Sr.Ok.new 3 ⟨#[]⟩ (by decide)).mono fun e w' hm => by
    rw [ts_1] at hm
    obtain ⟨h2, h3⟩ := hm.at_.new_ hm.turns hW.size
    exact ⟨hm.ret, h2, hW.trans h3⟩
  have H2 : Hid (∀ W g, Below w.heap.size w W → StNew w.heap.size W g ts1 → Calls Tryd.prog 17 #[.pointer (some ⟨g, 0, none⟩)] W fun e w' => e = .returned (.tuple #[]) ∧ StNew w.heap.size w' g ts2 ∧ Below w.heap.size w w') := fun W g hW hS => (syncSt_any hS).mono fun e w' hm => by
    rw [ts_2] at hm
    exact ⟨hm.1, hm.2.1, hW.trans (hm.2.2.below (fun k e => e) hW.size)⟩
  have H3 : Hid (∀ W g, Below w.heap.size w W → StNew w.heap.size W g ts2 → Calls Tryd.prog 19 #[.pointer (some ⟨g, 0, none⟩), .int .i64 1, .int .i64 0, .slice (some ⟨W.heap.size, 0, none⟩) 2 2] (W.alloc (.cells #[.int .u8 97, .int .u8 98] 5 (2, 3))) fun e w' => e = .returned (.int .i64 0) ∧ StNew w.heap.size w' g ts3 ∧ Below w.heap.size w w') := fun W g hW hS => (appendSt_any (hS.stay ((Below.refl _ _).alloc (Nat.le_refl _) _)) tk2 1 0 _ 2 2 [97, 98] (isB_ab W) rfl (by decide)).mono fun e w' hm => by
    rw [ts_3] at hm
    have hb : Below w.heap.size w (W.alloc (.cells #[.int .u8 97, .int .u8 98] 5 (2, 3))) := hW.alloc hW.size _
    obtain ⟨h2, h3⟩ := hm.at_.new_ hm.turns hb.size
    exact ⟨hm.ret, h2, hb.trans h3⟩
  have H4 : Hid (∀ W g, Below w.heap.size w W → StNew w.heap.size W g ts3 → Calls Tryd.prog 10 #[.pointer (some ⟨g, 0, none⟩), .int .i64 0] W fun e w' => e = .returned (.tuple #[]) ∧ ∃ gs, w'.cell? ⟨g, 0, none⟩ = some (.pointer (some ⟨gs, 0, none⟩)) ∧ SpNew w.heap.size w' gs tb0 ∧ Below w.heap.size w w') := fun W g hW hS => (crashSt_any hS tk3 0).mono fun e w' hm => by
    rw [ts_4] at hm
    obtain ⟨h2, h3⟩ := hm.2.at_.new_ hm.2.turns hW.size
    obtain ⟨gs, gl, ao, ca, P, hI⟩ := h2
    exact ⟨hm.1, gs, (row2 hI.row).1.1, hI.spool.mono (fun k _ e => (hI.inP k e).1), hW.trans h3⟩
  have H5 : Hid (∀ W gs, Below w.heap.size w W → SpNew w.heap.size W gs tb0 → Calls Tryd.prog 16 #[.pointer (some ⟨gs, 0, none⟩), .int .i64 1] W fun e w' => ∃ ao cap, e = .returned (.tuple #[.agg #[.int .i64 1, .int .i64 3, .string ⟨#[]⟩, .slice ao 0 cap, .int .i64 0], .bool true]) ∧ Below w.heap.size w w') := fun W gs hW hS => (getU_some tb0 _ gs 1 0 W hS tk2.h (by decide) (by decide)).mono fun e w' hm => by
    obtain ⟨ao, cap, h1, _, h3⟩ := hm
    exact ⟨ao, cap, h1, hW.trans (h3.mono hW.size)⟩
  have kc := fun (w : World) (C : Array Value) (n c : Nat) => Lib.run_convert_bytes_const (P := Tryd.prog) w 43 5 C n c Tryd.underlying43 Tryd.underlying5
  go_enter Tryd.func5, Tryd.ntmps5
  go_wp2_with (first
    | (go_at_call 7; refine H0.out.mono ?_; rintro e w1 ⟨g, rfl, hs, hb⟩; have S1 := Hid.mk' hs; have B1 := Hid.mk' hb; clear hs hb)
    | (go_at_call 18; refine (H1.out _ _ B1.out S1.out).mono ?_; rintro e w2 ⟨rfl, hs, hb⟩; have S2 := Hid.mk' hs; have B2 := Hid.mk' hb; clear hs hb)
    | (go_at_call 17; refine (H2.out _ _ B2.out S2.out).mono ?_; rintro e w3 ⟨rfl, hs, hb⟩; have S3 := Hid.mk' hs; have B3 := Hid.mk' hb; clear hs hb)
    | (go_at_call 19; refine (H3.out _ _ B3.out S3.out).mono ?_; rintro e w4 ⟨rfl, hs, hb⟩; have S4 := Hid.mk' hs; have B4 := Hid.mk' hb; clear hs hb)
    | (go_at_call 10; refine (H4.out _ _ B4.out S4.out).mono ?_; rintro e w5 ⟨rfl, gs, c0, hs, hb⟩; have S5 := Hid.mk' hs; have B5 := Hid.mk' hb; clear hs hb)
    | (go_at_call 16; refine (H5.out _ _ B5.out S5.out).mono ?_; rintro e w6 ⟨ao, cap, rfl, hb⟩; have B6 := Hid.mk' (hb.alloc hb.size (.cells #[.int .i64 1, .int .i64 3, .string ⟨#[]⟩, .slice ao 0 cap, .int .i64 0] 53)); clear hb))
  go_ret
  exact ⟨rfl, B6.out⟩
end Go.Proofs.YtanpocgojmflgaaDoor

/- StoreSure, walked. -/
namespace Go.Proofs.YtanpocgojmflgaaDoor
open Go.RowKit

theorem info_ups : (Tryd.prog.info? 28).map (fun i => (i.zero, i.size, i.bytes)) = some (some (.slice none 0 0), 1, 24) := by kernel_rfl
/-- what the first loop of the law keeps -/
structure SuAt (w W : World) (gs gt : Nat) (T : List (List Sp.Up)) (ao : Option Addr) (cap m k : Nat) (s : Sr.Sh) (A B C : Nat → Prop) : Prop where
  tri : Tri w W gs gt s s T ao cap A B C
  ok : Sr.Ok s
  since : Sr.Since s T
  len : T.length = m
  few : m ≤ k + 1
  small : ∀ x ∈ T, x.length ≤ 1000000
/-- where the first, and the last, of these stand that are so -/
structure AtTo (T : List (List Sp.Up)) (a b : List Sp.Up) (k : Nat) (at_ to_ : Int) : Prop where
  a0 : -1 ≤ at_
  a1 : at_ ≤ k
  b0 : -1 ≤ to_
  b1 : to_ ≤ k
  fa : ∀ (j : Nat), j < k → T[j]? = some a → 0 ≤ at_ ∧ at_ ≤ j
  fb : ∀ (j : Nat), j < k → T[j]? = some b → (j : Int) ≤ to_
theorem AtTo.start (T : List (List Sp.Up)) (a b : List Sp.Up) : AtTo T a b 0 (-1) (-1) := ⟨by omega, by omega, by omega, by omega, fun j hj => by omega, fun j hj => by omega⟩
theorem AtTo.next {T : List (List Sp.Up)} {a b : List Sp.Up} {k : Nat} {at_ to_ at' to' : Int} (h : AtTo T a b k at_ to_) (ha : (at' = at_ ∧ (at_ < 0 → T[k]? ≠ some a)) ∨ (at' = k ∧ at_ < 0)) (hb : (to' = to_ ∧ T[k]? ≠ some b) ∨ to' = k) : AtTo T a b (k + 1) at' to' := by
  have h1 := h.a0; have h2 := h.a1; have h3 := h.b0; have h4 := h.b1
  refine ⟨by omega, by omega, by omega, by omega, fun j hj e => ?_, fun j hj e => ?_⟩
  · by_cases hjk : j < k
    · have := h.fa j hjk e
      omega
    · obtain rfl : j = k := by omega
      rcases ha with ⟨rfl, hn⟩ | ⟨rfl, _⟩
      · by_cases h0 : at' < 0
        · exact absurd e (hn h0)
        · omega
      · omega
  · by_cases hjk : j < k
    · have := h.fb j hjk e
      omega
    · obtain rfl : j = k := by omega
      rcases hb with ⟨rfl, hn⟩ | rfl
      · exact absurd e hn
      · exact Int.le_refl _
theorem more_keep {keep more : Int} (h0 : -9223372036854775808 ≤ keep) (h1 : ¬ keep > 1099511627776) : keep ≤ wrap64 (keep + wrap64 ((IntKind.u64.wrap more).tmod 1000)) := by
  have e0 : 0 ≤ IntKind.u64.wrap more := by simp [IntKind.wrap, IntKind.bits, IntKind.signed]; omega
  generalize IntKind.u64.wrap more = x at *
  rw [Int.tmod_eq_emod_of_nonneg e0]
  unfold wrap64
  omega
set_option maxRecDepth 100000 in
set_option maxHeartbeats 40000000 in
theorem storeSure_any (l : List Stp) (ao : Option Addr) (cap n : Nat) (keep more : Int) (w : World) (hl : IsV w ao cap n (stpV l)) (hn : l.length = n) (hz : ∀ p ∈ l, p.text.size ≤ 140737488355328) (hN : n ≤ 9223372036854775807) (hkeep : -9223372036854775808 ≤ keep) :
    Calls Tryd.prog 3 #[.slice ao n cap, .int .i64 keep, .int .i64 more] w fun e w' => e = .returned (.bool true) ∧ Below w.heap.size w w' := by
  subst hn
  have hcap := hl.1
  have H := Hid.mk' hl
  have HSb := Hid.mk' (storeBegun_any w)
  have HG : Hid (∀ W, Below w.heap.size w W → Calls Tryd.prog 6 #[.slice ao l.length cap] W fun e w' => ∃ b : Bool, e = .returned (.bool b) ∧ (b = false → l.length ≤ 150 ∧ stpN l ≤ 20000) ∧ w' = W) := fun W hW => greatStore_any l ao cap l.length W (hl.stay hW) rfl hz hN
  obtain ⟨i0, hi0, hz0, hz1, hz2⟩ := info_parts info_ups
  have Hi := Hid.mk' hi0; have Hz0 := Hid.mk' hz0; have Hz1 := Hid.mk' hz1; have Hz2 := Hid.mk' hz2
  clear hl hz hi0 hz0 hz1 hz2
  go_enter Tryd.func3, Tryd.ntmps3
  go_wp2_with fail
  refine HSb.out.mono ?_
  rintro e w1 ⟨rfl, hb1⟩
  have HB1 := Hid.mk' hb1
  have HG1 := Hid.mk' (HG.out w1 hb1)
  clear hb1 HG
  go_wp2_with fail
  refine HG1.out.mono ?_
  rintro e w1' ⟨b, rfl, hsm, hw1⟩
  rw [hw1]
  clear hw1 w1'
  cases b with
  | true =>
    go_wp2
    go_ret
    exact ⟨rfl, HB1.out⟩
  | false =>
    obtain ⟨h150, h20⟩ := hsm rfl
    have HNw := Hid.mk' (fun W => newSt_any W)
    clear hsm
    go_wp2_with fail
    refine (HNw.out w1).mono ?_
    rintro e w2 ⟨gs, rfl, hS2, hb2⟩
    have HS2 := Hid.mk' hS2; have Hb2 := Hid.mk' hb2
    clear hS2 hb2
    go_wp2_with fail
    refine (HNw.out w2).mono ?_
    rintro e w3 ⟨gt, rfl, hR3, hb3⟩
    have hD3 : Tri w1 w3 gs gt Sr.new Sr.new [] none 0 (fun k => w1.heap.size ≤ k ∧ k < w2.heap.size) (fun k => w2.heap.size ≤ k ∧ k < w3.heap.size) (fun _ => False) := by
      have e1 := Hb2.out.size
      have e2 := hb3.size
      exact ⟨(HS2.out.mono (fun k hk e => ⟨e, hk⟩)).stay hb3, hR3.mono (fun k hk e => ⟨e, hk⟩), TsAt.nil _ _ _ _, fun k e => ⟨e.1, by omega, fun e2 => by omega, fun e => e⟩, fun k e => ⟨by omega, e.2, fun e => e⟩, fun _ e => e.elim, then_ Hb2.out hb3⟩
    have HD3 := Hid.mk' hD3
    obtain ⟨ks, kl, kao, kca, P1, hst⟩ := hD3.s1
    obtain ⟨⟨y0, y1⟩, _⟩ := row2 hst.row
    have HLs := Hid.mk' (listU_any _ P1 _ w3 hst.spool Sr.Ok.new.h.small)
    clear hD3 hR3 hb3 HS2 Hb2 HNw HSb HG1 hst y1
    go_wp2_with fail
    refine HLs.out.mono ?_
    rintro e w4 ⟨al, rfl, hU4, hb4⟩
    obtain ⟨xs, hO4, hK4⟩ := HD3.out.push hb4 hU4.at_ rfl
    have HO4 := Hid.mk' hO4; have HK4 := Hid.mk' hK4
    clear hU4 hb4 hO4 hK4 HLs y0
    go_wp2_with (at_builtin; refine wpList_append_v rfl (.tmp 20) (.tmp 26) 27 rfl 0 28 i0 (.slice none 0 0) 1 24 Tryd.underlying27 Hi.out Hz0.out Hz1.out Hz2.out rfl (by decide) rfl HO4.out rfl (IsV.made _ _ 1 _ _) rfl (fun u hu => by simp at hu; subst hu; rfl) (by simp) (by simp) (Nat.zero_le _) ?_; intro ao5 cap5 w5 hO5 hG5 hat5; have hD5 := HK4.out _ _ _ hO5 hG5 hat5; have HD5 := Hid.mk' hD5; clear hO5 hG5 hat5 hD5)
    clear HO4 HK4 HD3
    have HS5 : Hid (∃ A B C, SuAt w1 w5 gs gt [Sr.new.h.l] ao5 cap5 1 0 Sr.new A B C) := ⟨_, _, _, HD5.out, Sr.Ok.new, Sr.Since.new, rfl, Nat.le_refl _, fun x hx => by rw [List.mem_singleton.1 hx]; decide⟩
    clear HD5
    go_loopw [9, 10] (fun vt t wr => ∃ (k : Nat) (s : Sr.Sh) (T : List (List Sp.Up)) (a9 : Option Addr) (c9 m : Nat) (A B C : Nat → Prop), k ≤ l.length ∧ t = .int .i64 k ∧ vt = .slice a9 m c9 ∧ SuAt w1 wr gs gt T a9 c9 m k s A B C) (fun _ t _ => l.length - (intOf t).toNat)
    case atStart =>
      obtain ⟨A, B, C, h⟩ := HS5.out
      exact ⟨0, Sr.new, _, ao5, cap5, 1, A, B, C, Nat.zero_le _, rfl, rfl, h⟩
    case round =>
      obtain ⟨k, s, T, a9, c9, m, A, B, C, hk, rfl, rfl, hS⟩ := hrel
      have HS := Hid.mk' hS
      have hfm := hS.few
      clear hS HS5
      by_cases hlt : k < l.length
      · have HW : Hid (∀ W, Below w1.heap.size w1 W → IsV W ao cap l.length (stpV l)) := fun W hW => H.out.stay (HB1.out.trans (hW.mono HB1.out.size))
        obtain ⟨bb, oo, ha, hc0, hc1, hc2, hc3⟩ := stp_at (HW.out _ HS.out.tri.below) k hlt
        subst ha
        have HC : Hid (∀ W, Below w1.heap.size w1 W → W.cell? ⟨bb, oo + k * 4, none⟩ = some (.int .i64 l[k].op) ∧ W.cell? ⟨bb, oo + k * 4 + 1, none⟩ = some (.int .i64 l[k].id) ∧ W.cell? ⟨bb, oo + k * 4 + 2, none⟩ = some (.int .i64 l[k].n) ∧ W.cell? ⟨bb, oo + k * 4 + 3, none⟩ = some (.string l[k].text)) := fun W hW => by
          obtain ⟨b', o', e, h⟩ := stp_at (HW.out W hW) k hlt
          injection e with e; injection e with e1 e2; subst e1; subst e2
          exact h
        have hlt' : (k : Int) < l.length := by omega
        have hm : l[k].text.size ≤ 1000000 := by have := stpN_one l k hlt; omega
        have HSt := Hid.mk' (step_any HS.out.tri.s1 HS.out.ok l[k] hm)
        have HR : Hid (∀ W A', Tri w1 W gs gt (Sr.step s l[k]).1 s T a9 c9 A' B C → Calls Tryd.prog 9 #[.pointer (some ⟨gt, 0, none⟩), .agg #[.int .i64 l[k].op, .int .i64 l[k].id, .int .i64 l[k].n, .string l[k].text]] W (StRan B W gt s l[k])) := fun W A' hW => step_any hW.s2 HS.out.ok l[k] hm
        have ok2 := HS.out.ok.step l[k]
        have hsi := HS.out.since.step l[k]
        clear hm HW
        have HSp : Hid (∀ e w', StRan A wr gs s l[k] e w' → e = .returned (.tuple #[.int .i64 (Sr.gave_ s l[k]), .int .i64 ((Sr.step s l[k]).2 : Int)]) ∧ ∃ A', Tri w1 w' gs gt (Sr.step s l[k]).1 s T a9 c9 A' B C) := fun e w' hd => ⟨hd.ret, _, HS.out.tri.fst hd.at_ hd.turns⟩
        have HRp : Hid (∀ W A' e w', Tri w1 W gs gt (Sr.step s l[k]).1 s T a9 c9 A' B C → StRan B W gt s l[k] e w' → e = .returned (.tuple #[.int .i64 (Sr.gave_ s l[k]), .int .i64 ((Sr.step s l[k]).2 : Int)]) ∧ ∃ B', Tri w1 w' gs gt (Sr.step s l[k]).1 (Sr.step s l[k]).1 T a9 c9 A' B' C) := fun W A' e w' hW hd => ⟨hd.ret, _, hW.snd hd.at_ hd.turns⟩
        have HLn := Hid.mk' HS.out.len
        have HSm := Hid.mk' HS.out.small
        have HSi := Hid.mk' hsi; have HOk := Hid.mk' ok2
        clear hsi ok2 HS
        generalize (Sr.step s l[k]).1 = s2 at *
        generalize (Sr.step s l[k]).2 = c at *
        generalize Sr.gave_ s l[k] = nu at *
        generalize l[k] = p at *
        go_wp2_with fail
        refine HSt.out.mono ?_
        intro e w6 hd
        obtain ⟨rfl, A', hD6⟩ := HSp.out _ _ hd
        clear hc0 hc1 hc2 hc3
        obtain ⟨hc0, hc1, hc2, hc3⟩ := HC.out w6 hD6.below
        have HD6 := Hid.mk' hD6
        have HR6 := Hid.mk' (HR.out w6 A' hD6)
        clear hd hD6 HSt HR HSp
        go_wp2_with fail
        refine HR6.out.mono ?_
        intro e w7 hd
        obtain ⟨rfl, B', hD7⟩ := HRp.out _ _ _ _ HD6.out hd
        clear hc0 hc1 hc2 hc3
        obtain ⟨hc0, _, _, _⟩ := HC.out w7 hD7.below
        obtain ⟨ks, kl, kao, kca, P1, hst⟩ := hD7.s1
        obtain ⟨⟨y0, y1⟩, _⟩ := row2 hst.row
        have HLs := Hid.mk' (listU_any _ P1 _ w7 hst.spool HOk.out.h.small)
        have HX : Hid (∀ T' a' c' m' C' w8 al, Tri w1 w7 gs gt s2 s2 T' a' c' A' B' C' → T'.length = m' → m' ≤ k + 1 → (∀ x ∈ T', x.length ≤ 1000000) → Sr.Since s2 (T' ++ [s2.h.l]) → UpO w8 (fun k => w7.heap.size ≤ k) 53 5 al s2.h.l.length s2.h.l → Below w7.heap.size w7 w8 →
            ∃ xs, OwnV (w8.alloc (.cells #[.slice al s2.h.l.length s2.h.l.length] 28)) 0 28 1 a' c' m' xs ∧
            ∀ ao' cap' w', OwnV w' 0 28 1 ao' cap' (m' + 1) (xs ++ [.slice al s2.h.l.length s2.h.l.length]) → (w8.alloc (.cells #[.slice al s2.h.l.length s2.h.l.length] 28)).grownBy w' (blockOf a') → (blockOf ao' = blockOf a' ∨ blockOf ao' = some (w8.alloc (.cells #[.slice al s2.h.l.length s2.h.l.length] 28)).heap.size) → ∃ C'', SuAt w1 w' gs gt (T' ++ [s2.h.l]) ao' cap' (m' + 1) (k + 1) s2 A' B' C'') := fun T' a' c' m' C' w8 al hD hL hm hs hsi hU hb => by
          obtain ⟨xs, h1, h2⟩ := hD.push hb hU.at_ rfl
          rw [hL] at h1
          refine ⟨xs, h1, fun ao' cap' w' g1 g2 g3 => ⟨_, h2 ao' cap' w' (by rw [hL]; exact g1) g2 g3, HOk.out, hsi, by rw [List.length_append, hL]; rfl, by omega, fun x hx => ?_⟩⟩
          rcases List.mem_append.1 hx with hx | hx
          · exact hs x hx
          · rw [List.mem_singleton.1 hx]; have := HOk.out.h.few; omega
        have HD7 := Hid.mk' hD7
        clear hd hD7 HRp HR6 HD6 HC hst y1
        generalize s2.h.l.length = un at *
        have hwm : IntKind.i64.wrap ((m : Int) + 1) = (m : Int) + 1 := wrap_id (by omega) (by omega)
        by_cases hx : p.op = 6 ∨ p.op = 7
        · have HSi2 : Hid (Sr.Since s2 ([] ++ [s2.h.l])) := by
            have := HSi.out; unfold Sr.timesOf at this; rw [if_pos hx] at this; exact this
          have tq : (p.op == 6 || p.op == 7) = true := by rcases hx with e | e <;> simp [e]
          have HX2 : Hid (∀ w8 al, UpO w8 (fun k => w7.heap.size ≤ k) 53 5 al un s2.h.l → Below w7.heap.size w7 w8 → _) := fun w8 al hU hb => HX.out [] none 0 0 _ w8 al HD7.out.reset rfl (Nat.zero_le _) (fun x hx => by cases hx) HSi2.out hU hb
          clear HX HSi HSm HLn
          rcases hx with hx | hx
          all_goals
            rw [hx] at hc0
            clear hx tq
            go_wp2_with fail
            refine HLs.out.mono ?_
            rintro e w8 ⟨al, rfl, hU8, hb8⟩
            obtain ⟨xs, hO8, hK8⟩ := HX2.out w8 al hU8 hb8
            have HO8 := Hid.mk' hO8; have HK8 := Hid.mk' hK8
            clear hU8 hb8 hO8 hK8 HLs y0 HX2
            go_wp2_with (at_builtin; refine wpList_append_v rfl (.tmp 60) (.tmp 66) 27 rfl 0 28 i0 (.slice none 0 0) 1 24 Tryd.underlying27 Hi.out Hz0.out Hz1.out Hz2.out rfl (by decide) rfl HO8.out rfl (IsV.made _ _ 1 _ _) rfl (fun u hu => by simp at hu; subst hu; rfl) (by simp) (by simp) (Nat.zero_le _) ?_; intro ao9 cap9 w9 hO9 hG9 hat9; obtain ⟨C9, hD9⟩ := HK8.out _ _ _ hO9 hG9 hat9; have HD9 := Hid.mk' hD9; clear hO9 hG9 hat9 hD9)
            clear HO8 HK8
            go_roundw
            case rel => exact ⟨k + 1, s2, _, ao9, cap9, 1, _, _, C9, by omega, by go_num, by go_num, HD9.out⟩
            case measure => simp [intOf]; omega
        · have HSi2 : Hid (Sr.Since s2 (T ++ [s2.h.l])) := by
            have := HSi.out; unfold Sr.timesOf at this; rw [if_neg hx] at this; exact this
          have n6 : ¬ p.op = 6 := fun e => hx (Or.inl e)
          have n7 : ¬ p.op = 7 := fun e => hx (Or.inr e)
          have HX2 : Hid (∀ w8 al, UpO w8 (fun k => w7.heap.size ≤ k) 53 5 al un s2.h.l → Below w7.heap.size w7 w8 → _) := fun w8 al hU hb => HX.out T a9 c9 m _ w8 al HD7.out HLn.out hfm HSm.out HSi2.out hU hb
          clear HX HSi HSm HLn hx
          have t6 : (p.op == 6) = false := by rw [beq_eq_false_iff_ne]; exact n6
          have t7 : (p.op == 7) = false := by rw [beq_eq_false_iff_ne]; exact n7
          go_wp2_with fail
          refine HLs.out.mono ?_
          rintro e w8 ⟨al, rfl, hU8, hb8⟩
          obtain ⟨xs, hO8, hK8⟩ := HX2.out w8 al hU8 hb8
          have HO8 := Hid.mk' hO8; have HK8 := Hid.mk' hK8
          clear hU8 hb8 hO8 hK8 HLs y0 HX2
          go_wp2_with (at_builtin; refine wpList_append_v rfl (.tmp 60) (.tmp 66) 27 rfl 0 28 i0 (.slice none 0 0) 1 24 Tryd.underlying27 Hi.out Hz0.out Hz1.out Hz2.out rfl (by decide) rfl HO8.out rfl (IsV.made _ _ 1 _ _) rfl (fun u hu => by simp at hu; subst hu; rfl) (by omega) (by omega) (Nat.zero_le _) ?_; intro ao9 cap9 w9 hO9 hG9 hat9; obtain ⟨C9, hD9⟩ := HK8.out _ _ _ hO9 hG9 hat9; have HD9 := Hid.mk' hD9; clear hO9 hG9 hat9 hD9)
          clear HO8 HK8
          go_roundw
          case rel => exact ⟨k + 1, s2, _, ao9, cap9, m + 1, _, _, C9, by omega, by go_num, by go_num, HD9.out⟩
          case measure => simp [intOf]; omega
      · obtain rfl : k = l.length := by omega
        clear hlt
        have HC1 := Hid.mk' (crashSt_any HS.out.tri.s1 HS.out.ok keep)
        have HC2 : Hid (∀ W s1 A' kk, Tri w1 W gs gt s1 s T a9 c9 A' B C → Calls Tryd.prog 10 #[.pointer (some ⟨gt, 0, none⟩), .int .i64 kk] W fun e w' => e = .returned (.tuple #[]) ∧ ∃ B', Tri w1 w' gs gt s1 (Sr.crash s kk) T a9 c9 A' B' C) := fun W s1 A' kk hW => (crashSt_any hW.s2 HS.out.ok kk).mono fun e w' hd => ⟨hd.1, _, hW.snd hd.2.at_ hd.2.turns⟩
        go_wp2_with fail
        refine HC1.out.mono ?_
        rintro e w6 ⟨rfl, hF⟩
        have HD6 := Hid.mk' (HS.out.tri.fst hF.at_ hF.turns)
        clear hF HC1
        go_wp2_with fail
        refine (HC2.out _ _ _ _ HD6.out).mono ?_
        rintro e w7 ⟨rfl, B7, hD7⟩
        have HD7 := Hid.mk' hD7
        clear hD7 HD6 HC2
        have HMk := Hid.mk' (fun h => more_keep (more := more) hkeep h)
        generalize wrap64 (keep + wrap64 ((IntKind.u64.wrap more).tmod 1000)) = kk at *
        have HCr := Hid.mk' (HS.out.since.crash keep kk)
        have hlen := HS.out.len
        have ok1 := HS.out.ok.crash keep
        have ok2 := HS.out.ok.crash kk
        have HSm := Hid.mk' HS.out.small
        have HBe : Hid (∀ W, Below w7.heap.size w7 W → Below w.heap.size w W) := fun W hW => HB1.out.trans ((then_ HD7.out.below hW).mono HB1.out.size)
        generalize Sr.crash s keep = s1 at *
        generalize Sr.crash s kk = s2 at *
        generalize hA7 : (fun k => A k ∨ wr.heap.size ≤ k ∧ k < w6.heap.size) = A7 at *
        clear hA7 HS H
        obtain ⟨ks, kl, kao, kca, P1, hst⟩ := HD7.out.s1
        obtain ⟨kt, jl, jao, jca, P2, hss⟩ := HD7.out.s2
        obtain ⟨⟨y0, _⟩, _⟩ := row2 hst.row
        obtain ⟨⟨z0, _⟩, _⟩ := row2 hss.row
        have HLs : Hid (∀ W, Below w7.heap.size w7 W → Calls Tryd.prog 8 #[.pointer (some ⟨ks, 0, none⟩)] W fun e w' => ∃ al, e = .returned (.slice al s1.h.l.length s1.h.l.length) ∧ IsUps w' al s1.h.l.length s1.h.l ∧ Below W.heap.size W w') := fun W hW => (listU_any _ P1 _ W (hst.spool.stay hW) ok1.h.small).mono fun e w' ⟨al, h1, h2, h3⟩ => ⟨al, h1, h2.isUps, h3⟩
        have HLt : Hid (∀ W, Below w7.heap.size w7 W → Calls Tryd.prog 8 #[.pointer (some ⟨kt, 0, none⟩)] W fun e w' => ∃ al, e = .returned (.slice al s2.h.l.length s2.h.l.length) ∧ IsUps w' al s2.h.l.length s2.h.l ∧ Below W.heap.size W w') := fun W hW => (listU_any _ P2 _ W (hss.spool.stay hW) ok2.h.small).mono fun e w' ⟨al, h1, h2, h3⟩ => ⟨al, h1, h2.isUps, h3⟩
        have HSo : Hid (∀ W a c x al n y, IsUps W a c x → x.length ≤ 1000000 → IsUps W al n y → y.length = n → Calls Tryd.prog 11 #[.slice a x.length c, .slice al n n] W fun e w' => (∃ b : Bool, e = .returned (.bool b) ∧ (x = y → b = true)) ∧ Below W.heap.size W w') := fun W a c x al n y h1 h2 h3 h4 => (sameUps_can x y a al c n _ n W h1 h3 rfl h4 h2).mono fun e w' ho => by
          obtain ⟨b, q, he, hb, hw⟩ := ho
          exact ⟨⟨b, he, hb⟩, by rw [hw]; exact below_drewsN W q⟩
        have HCc : Hid (∀ W, Below w7.heap.size w7 W → W.cell? ⟨gs, 0, none⟩ = some (.pointer (some ⟨ks, 0, none⟩)) ∧ W.cell? ⟨gt, 0, none⟩ = some (.pointer (some ⟨kt, 0, none⟩))) := fun W hW => ⟨(hW.cell (p := ⟨gs, 0, none⟩) hst.lt).trans y0, (hW.cell (p := ⟨gt, 0, none⟩) hss.lt).trans z0⟩
        have htc := HD7.out.ts.cap_
        have HU1 : Hid (s1.h.l.length ≤ 12) := ok1.h.few
        have HU2 : Hid (s2.h.l.length ≤ 12) := ok2.h.few
        clear hst hss ok1 ok2 y0 z0
        subst hlen
        go_wp2
        go_loopw [11, 12, 13] (fun va vo vi wq => ∃ (k : Nat) (at_ to_ : Int), k ≤ T.length ∧ vi = .int .i64 k ∧ va = .int .i64 at_ ∧ vo = .int .i64 to_ ∧ AtTo T s1.h.l s2.h.l k at_ to_ ∧ Below w7.heap.size w7 wq) (fun _ _ vi _ => T.length - (intOf vi).toNat)
        case atStart => exact ⟨0, -1, -1, Nat.zero_le _, rfl, rfl, rfl, AtTo.start _ _ _, Below.refl _ _⟩
        case round =>
          obtain ⟨k, at_, to_, hk, rfl, rfl, rfl, hA, hB⟩ := hrel
          have HA := Hid.mk' hA; have HB := Hid.mk' hB
          clear hA hB
          by_cases hlt : k < T.length
          · obtain ⟨bt, ot, a0, c0, ha, hcell, hI0⟩ := (HD7.out.ts.stay HB.out).at_ k hlt
            subst ha
            have hlt' : (k : Int) < T.length := by omega
            have HTk : Hid (∀ W, Below wr.heap.size wr W → W.cell? ⟨bt, ot + k, none⟩ = some (.slice a0 T[k].length c0) ∧ W.cell? ⟨gs, 0, none⟩ = some (.pointer (some ⟨ks, 0, none⟩)) ∧ W.cell? ⟨gt, 0, none⟩ = some (.pointer (some ⟨kt, 0, none⟩))) := fun W hW => ⟨(hW.cell (p := ⟨bt, ot + k, none⟩) (World.block_lt_of_cell? wr _ hcell)).trans hcell, HCc.out W (then_ HB.out hW)⟩
            have hx := HSm.out _ (List.getElem_mem hlt)
            have hget : T[k]? = some T[k] := List.getElem?_eq_getElem hlt
            have HNx : Hid (∀ (b1 b2 : Bool) at' to', (T[k] = s1.h.l → b1 = true) → (T[k] = s2.h.l → b2 = true) → ((at' = at_ ∧ (at_ < 0 → b1 = false)) ∨ (at' = k ∧ at_ < 0)) → ((to' = to_ ∧ b2 = false) ∨ to' = k) → AtTo T s1.h.l s2.h.l (k + 1) at' to') := fun b1 b2 at' to' h1 h2 h3 h4 => by
              refine HA.out.next ?_ ?_
              · rcases h3 with ⟨e, h⟩ | h
                · refine Or.inl ⟨e, fun h0 e2 => ?_⟩
                  rw [hget] at e2; injection e2 with e2
                  have := h1 e2; rw [h h0] at this; cases this
                · exact Or.inr h
              · rcases h4 with ⟨e, h⟩ | h
                · refine Or.inl ⟨e, fun e2 => ?_⟩
                  rw [hget] at e2; injection e2 with e2
                  have := h2 e2; rw [h] at this; cases this
                · exact Or.inr h
            have HL1 : Hid (∀ W, Below wr.heap.size wr W → Calls Tryd.prog 8 #[.pointer (some ⟨ks, 0, none⟩)] W fun e w' => ∃ al, e = .returned (.slice al s1.h.l.length s1.h.l.length) ∧ IsUps w' al s1.h.l.length s1.h.l ∧ Below wr.heap.size wr w') := fun W hW => (HLs.out W (then_ HB.out hW)).mono fun e w' ⟨al, h1, h2, h3⟩ => ⟨al, h1, h2, then_ hW h3⟩
            have HL2 : Hid (∀ W, Below wr.heap.size wr W → Calls Tryd.prog 8 #[.pointer (some ⟨kt, 0, none⟩)] W fun e w' => ∃ al, e = .returned (.slice al s2.h.l.length s2.h.l.length) ∧ IsUps w' al s2.h.l.length s2.h.l ∧ Below wr.heap.size wr w') := fun W hW => (HLt.out W (then_ HB.out hW)).mono fun e w' ⟨al, h1, h2, h3⟩ => ⟨al, h1, h2, then_ hW h3⟩
            have HSo1 : Hid (∀ W al, Below wr.heap.size wr W → IsUps W al s1.h.l.length s1.h.l → Calls Tryd.prog 11 #[.slice a0 T[k].length c0, .slice al s1.h.l.length s1.h.l.length] W fun e w' => (∃ b : Bool, e = .returned (.bool b) ∧ (T[k] = s1.h.l → b = true)) ∧ Below wr.heap.size wr w') := fun W al h2 h3 => (HSo.out W a0 c0 T[k] al _ s1.h.l (hI0.stay h2) hx h3 rfl).mono fun e w' ⟨h5, h6⟩ => ⟨h5, then_ h2 h6⟩
            have HSo2 : Hid (∀ W al, Below wr.heap.size wr W → IsUps W al s2.h.l.length s2.h.l → Calls Tryd.prog 11 #[.slice a0 T[k].length c0, .slice al s2.h.l.length s2.h.l.length] W fun e w' => (∃ b : Bool, e = .returned (.bool b) ∧ (T[k] = s2.h.l → b = true)) ∧ Below wr.heap.size wr w') := fun W al h2 h3 => (HSo.out W a0 c0 T[k] al _ s2.h.l (hI0.stay h2) hx h3 rfl).mono fun e w' ⟨h5, h6⟩ => ⟨h5, then_ h2 h6⟩
            have HEn : Hid (∀ W, Below wr.heap.size wr W → Below w7.heap.size w7 W) := fun W hW => then_ HB.out hW
            have hcg := (HTk.out wr (Below.refl _ _))
            obtain ⟨_, g1, g2⟩ := hcg
            clear hx hget hI0 HLs HLt HSo HCc HA HSm
            generalize T[k] = x at *
            generalize x.length = xn at *
            generalize s1.h.l.length = un at *
            generalize s2.h.l.length = vn at *
            go_upto_region 22 with fail
            by_cases hat : at_ < 0
            · have ta : decide (at_ < 0) = true := by rw [decide_eq_true_eq]; exact hat
              have HBc : Hid (Below wr.heap.size wr wr.drew) := below_drew _ _
              go_region_held3 (fun w' => w'.cell? ⟨bt, ot + k, none⟩ = some (.slice a0 xn c0) ∧ w'.cell? ⟨gs, 0, none⟩ = some (.pointer (some ⟨ks, 0, none⟩)) ∧ w'.cell? ⟨gt, 0, none⟩ = some (.pointer (some ⟨kt, 0, none⟩))) (go_keep) (first
                | (go_at_call 8; refine (HL1.out _ HBc.out).mono ?_; rintro e u1 ⟨al, rfl, hu1, hb1⟩; have HUa := Hid.mk' hu1; clear hu1; obtain ⟨e0, e1, e2⟩ := HTk.out u1 hb1; have HBc := Hid.mk' hb1; clear hb1)
                | (go_at_call 11; refine (HSo1.out _ _ HBc.out HUa.out).mono ?_; rintro e u1 ⟨⟨b1, rfl, hbb1⟩, hb1⟩; have HBb := Hid.mk' hbb1; clear hbb1; obtain ⟨e0, e1, e2⟩ := HTk.out u1 hb1; have HBc := Hid.mk' hb1; clear hb1))
              have Hat := Hid.mk' hat
              clear hat ta
              cases b1 with
              | true =>
                go_upto_region 24 with fail
                have HBd : Hid (Below wr.heap.size wr u1.drew) := HBc.out.trans (below_drew _ _)
                clear HBc
                have HBc := Hid.mk' HBd.out
                clear HBd
                go_region_held3 (fun w' => w'.cell? ⟨bt, ot + k, none⟩ = some (.slice a0 xn c0) ∧ w'.cell? ⟨gs, 0, none⟩ = some (.pointer (some ⟨ks, 0, none⟩)) ∧ w'.cell? ⟨gt, 0, none⟩ = some (.pointer (some ⟨kt, 0, none⟩))) (go_keep) (first
                  | (go_at_call 8; refine (HL2.out _ HBc.out).mono ?_; rintro e u2 ⟨al2, rfl, hu2, hb2⟩; have HUa := Hid.mk' hu2; clear hu2; obtain ⟨d0, d1, d2⟩ := HTk.out u2 hb2; have HBc := Hid.mk' hb2; clear hb2)
                  | (go_at_call 11; refine (HSo2.out _ _ HBc.out HUa.out).mono ?_; rintro e u2 ⟨⟨b2, rfl, hbb2⟩, hb2⟩; have HBb2 := Hid.mk' hbb2; clear hbb2; obtain ⟨d0, d1, d2⟩ := HTk.out u2 hb2; have HBc := Hid.mk' hb2; clear hb2))
                cases b2 with
                | true =>
                  go_wp2
                  go_roundw
                  case rel => exact ⟨k + 1, (k : Int), (k : Int), by omega, by go_num, rfl, rfl, HNx.out true true _ _ (fun _ => rfl) (fun _ => rfl) (Or.inr ⟨rfl, Hat.out⟩) (Or.inr rfl), HEn.out _ HBc.out⟩
                  case measure => simp [intOf]; omega
                | false =>
                  go_wp2
                  go_roundw
                  case rel => exact ⟨k + 1, (k : Int), to_, by omega, by go_num, rfl, rfl, HNx.out true false _ _ (fun _ => rfl) HBb2.out (Or.inr ⟨rfl, Hat.out⟩) (Or.inl ⟨rfl, rfl⟩), HEn.out _ HBc.out⟩
                  case measure => simp [intOf]; omega
              | false =>
                go_upto_region 24 with fail
                have HBd : Hid (Below wr.heap.size wr u1.drew) := HBc.out.trans (below_drew _ _)
                clear HBc
                have HBc := Hid.mk' HBd.out
                clear HBd
                go_region_held3 (fun w' => w'.cell? ⟨bt, ot + k, none⟩ = some (.slice a0 xn c0) ∧ w'.cell? ⟨gs, 0, none⟩ = some (.pointer (some ⟨ks, 0, none⟩)) ∧ w'.cell? ⟨gt, 0, none⟩ = some (.pointer (some ⟨kt, 0, none⟩))) (go_keep) (first
                  | (go_at_call 8; refine (HL2.out _ HBc.out).mono ?_; rintro e u2 ⟨al2, rfl, hu2, hb2⟩; have HUa := Hid.mk' hu2; clear hu2; obtain ⟨d0, d1, d2⟩ := HTk.out u2 hb2; have HBc := Hid.mk' hb2; clear hb2)
                  | (go_at_call 11; refine (HSo2.out _ _ HBc.out HUa.out).mono ?_; rintro e u2 ⟨⟨b2, rfl, hbb2⟩, hb2⟩; have HBb2 := Hid.mk' hbb2; clear hbb2; obtain ⟨d0, d1, d2⟩ := HTk.out u2 hb2; have HBc := Hid.mk' hb2; clear hb2))
                cases b2 with
                | true =>
                  go_wp2
                  go_roundw
                  case rel => exact ⟨k + 1, at_, (k : Int), by omega, by go_num, rfl, rfl, HNx.out false true _ _ HBb.out (fun _ => rfl) (Or.inl ⟨rfl, fun _ => rfl⟩) (Or.inr rfl), HEn.out _ HBc.out⟩
                  case measure => simp [intOf]; omega
                | false =>
                  go_wp2
                  go_roundw
                  case rel => exact ⟨k + 1, at_, to_, by omega, by go_num, rfl, rfl, HNx.out false false _ _ HBb.out HBb2.out (Or.inl ⟨rfl, fun _ => rfl⟩) (Or.inl ⟨rfl, rfl⟩), HEn.out _ HBc.out⟩
                  case measure => simp [intOf]; omega
            · have ta : decide (at_ < 0) = false := by rw [decide_eq_false_iff_not]; exact hat
              go_quiet (fail)
              have HBc : Hid (Below wr.heap.size wr (wr.drewN nq)) := below_drewsN wr nq
              obtain ⟨e0, e1, e2⟩ := HTk.out _ HBc.out
              have Hat := Hid.mk' hat
              have HBb : Hid (x = s1.h.l → true = true) := fun _ => rfl
              clear hat
              generalize wr.drewN nq = u1 at *
              go_upto_region 24 with fail
              have HBd : Hid (Below wr.heap.size wr u1.drew) := HBc.out.trans (below_drew _ _)
              clear HBc
              have HBc := Hid.mk' HBd.out
              clear HBd
              go_region_held3 (fun w' => w'.cell? ⟨bt, ot + k, none⟩ = some (.slice a0 xn c0) ∧ w'.cell? ⟨gs, 0, none⟩ = some (.pointer (some ⟨ks, 0, none⟩)) ∧ w'.cell? ⟨gt, 0, none⟩ = some (.pointer (some ⟨kt, 0, none⟩))) (go_keep) (first
                | (go_at_call 8; refine (HL2.out _ HBc.out).mono ?_; rintro e u2 ⟨al2, rfl, hu2, hb2⟩; have HUa := Hid.mk' hu2; clear hu2; obtain ⟨d0, d1, d2⟩ := HTk.out u2 hb2; have HBc := Hid.mk' hb2; clear hb2)
                | (go_at_call 11; refine (HSo2.out _ _ HBc.out HUa.out).mono ?_; rintro e u2 ⟨⟨b2, rfl, hbb2⟩, hb2⟩; have HBb2 := Hid.mk' hbb2; clear hbb2; obtain ⟨d0, d1, d2⟩ := HTk.out u2 hb2; have HBc := Hid.mk' hb2; clear hb2))
              cases b2 with
              | true =>
                go_wp2
                go_roundw
                case rel => exact ⟨k + 1, at_, (k : Int), by omega, by go_num, rfl, rfl, HNx.out true true _ _ (fun _ => rfl) (fun _ => rfl) (Or.inl ⟨rfl, fun h => absurd h (by have := Hat.out; omega)⟩) (Or.inr rfl), HEn.out _ HBc.out⟩
                case measure => simp [intOf]; omega
              | false =>
                go_wp2
                go_roundw
                case rel => exact ⟨k + 1, at_, to_, by omega, by go_num, rfl, rfl, HNx.out true false _ _ (fun _ => rfl) HBb2.out (Or.inl ⟨rfl, fun h => absurd h (by have := Hat.out; omega)⟩) (Or.inl ⟨rfl, rfl⟩), HEn.out _ HBc.out⟩
                case measure => simp [intOf]; omega
          · obtain rfl : k = T.length := by omega
            obtain ⟨i, i', c1, c2, c3⟩ := HCr.out
            have f1 := HA.out.fa i (List.getElem?_eq_some_iff.1 c1).1 c1
            have f2 := HA.out.fb i' (List.getElem?_eq_some_iff.1 c2).1 c2
            have t1 : decide (at_ ≥ 0) = true := by rw [decide_eq_true_eq]; omega
            have t2 : decide (to_ ≥ 0) = true := by rw [decide_eq_true_eq]; omega
            have HE := Hid.mk' (HBe.out _ HB.out)
            by_cases hg : keep > 1099511627776
            · have t3 : decide (keep > 1099511627776) = true := by rw [decide_eq_true_eq]; exact hg
              clear f1 f2 c1 c2 c3 HA HCr HMk hg
              go_wp2
              go_ret
              exact ⟨rfl, HE.out⟩
            · have t3 : decide (keep > 1099511627776) = false := by rw [decide_eq_false_iff_not]; exact hg
              have hii := c3 (HMk.out (by omega))
              have t4 : decide (at_ ≤ to_) = true := by rw [decide_eq_true_eq]; omega
              clear f1 f2 c1 c2 c3 HA HCr HMk hg hii
              go_wp2
              go_ret
              exact ⟨rfl, HE.out⟩
end Go.Proofs.YtanpocgojmflgaaDoor
