/- TusTells, walked. -/
import Derived.Test.YtdclmpdjjkjfjaaGreatDoorPk19
import Derived.Test.YtdclmpdjjkjfjaaGreatDoorTuBg
import Derived.Test.YtdclmpdjjkjfjaaGreatDoorPk15
import Derived.Test.YtdclmpdjjkjfjaaGreatDoorPk6
import Derived.Test.YtdclmpdjjkjfjaaGreatDoorPk9
import Derived.Test.YtdclmpdjjkjfjaaGreatDoorPk25
import Derived.Test.YtdclmpdjjkjfjaaGreatDoorPk14
import Derived.Test.YtdclmpdjjkjfjaaGreatDoorPk13
import Derived.Test.YtdclmpdjjkjfjaaGreatDoorPk18
import Derived.Deep.RegionHeld3
import Derived.Deep.RegionLaw
import Derived.Deep.DeepCutAuto
namespace Go.Proofs.YtdclmpdjjkjfjaaGreatDoor
open Go.RowKit

theorem info_bst : (Tryz.prog.info? 30).map (fun i => (i.zero, i.size, i.bytes)) = some (some (.slice none 0 0), 1, 24) := by kernel_rfl
theorem Tu.pre1 (t : ByteArray) : (t.extract 0 1).toList = t.data.toList.take 1 := by
  rw [Lib.toList_data, Lib.extract_data]; simp
/-- a store, and apart from it what came in for each number -/
structure TlAt (w1 W : World) (g gc : Nat) (s : Sr.Sh) (cm : List (List UInt8)) (A C : Nat → Prop) : Prop where
  un : UnAt w1 W g s A
  bx : BxO W C 30 5 gc cm
  c : ∀ k, C k → w1.heap.size ≤ k ∧ k < W.heap.size ∧ ¬ A k
/-- a reply in its box, a head in its own, and these two -/
structure TlRel (w1 : World) (g gc : Nat) (s2 : Sr.Sh) (cm : List (List UInt8)) (rs : Int) (nr : Nat) (rl : List (ByteArray × ByteArray)) (kh : Nat) (ho : Obj) (A C : Nat → Prop) (g9 : Nat) (a4 : Option Addr) (k4 : Nat) (W : World) : Prop where
  r9 : W.heap[g9]? = some (.cells #[.int .i64 rs, .slice a4 nr k4, .slice none 0 0] 32 (0, 0))
  o4 : OwnV W w1.heap.size 58 2 a4 k4 nr (pairV rl)
  tl : TlAt w1 W g gc s2 cm A C
  hh : W.heap[kh]? = some ho
  n9 : ¬ C g9
section
variable {w1 W W' : World} {g gc : Nat} {s s2 : Sr.Sh} {cm : List (List UInt8)} {A C : Nat → Prop} {rs : Int} {nr : Nat} {rl : List (ByteArray × ByteArray)} {kh : Nat} {ho : Obj} {g9 : Nat} {a4 : Option Addr} {k4 : Nat}
theorem UnAt.aside (h : UnAt w1 W g s2 A) {b : Nat} (ht : Turns (fun k => k = b) W W') (na : ¬ A b) (lo : w1.heap.size ≤ b) : UnAt w1 W' g s2 A :=
  ⟨h.st.turns ht (fun _ e e2 => na (e2 ▸ e)), fun k e => ⟨(h.a k e).1, Nat.lt_of_lt_of_le (h.a k e).2 ht.size⟩, h.below.trans (ht.below (fun k e => by omega) h.below.size)⟩
theorem TlAt.stay (h : TlAt w1 W g gc s cm A C) (hb : Below W.heap.size W W') : TlAt w1 W' g gc s cm A C := ⟨h.un.stay hb, h.bx.stay hb, fun k e => ⟨(h.c k e).1, Nat.lt_of_lt_of_le (h.c k e).2.1 hb.size, (h.c k e).2.2⟩⟩
theorem TlAt.did (h : TlAt w1 W g gc s cm A C) (hr : StAt W' (orNew A W) g s2) (ht : Turns A W W') : TlAt w1 W' g gc s2 cm (fun k => A k ∨ (W.heap.size ≤ k ∧ k < W'.heap.size)) C := by
  have hs2 := ht.size
  refine ⟨h.un.did hr ht, h.bx.turns ht (fun k e => (h.c k e).2.2), fun k e => ⟨(h.c k e).1, Nat.lt_of_lt_of_le (h.c k e).2.1 hs2, fun e2 => ?_⟩⟩
  rcases e2 with e2 | e2
  · exact (h.c k e).2.2 e2
  · have := (h.c k e).2.1; omega
theorem TlAt.aside (h : TlAt w1 W g gc s cm A C) {b : Nat} (ht : Turns (fun k => k = b) W W') (na : ¬ A b) (nc : ¬ C b) (lo : w1.heap.size ≤ b) : TlAt w1 W' g gc s cm A C :=
  ⟨h.un.aside ht na lo, h.bx.turns ht (fun _ e e2 => nc (e2 ▸ e)), fun k e => ⟨(h.c k e).1, Nat.lt_of_lt_of_le (h.c k e).2.1 ht.size, (h.c k e).2.2⟩⟩
theorem TlAt.grew {cm' : List (List UInt8)} (h : TlAt w1 W g gc s cm A C) (hb : BxO W' (orNew C W) 30 5 gc cm') (ht : Turns C W W') : TlAt w1 W' g gc s cm' A (fun k => C k ∨ (W.heap.size ≤ k ∧ k < W'.heap.size)) := by
  have hs2 := ht.size
  refine ⟨⟨h.un.st.turns ht (fun k e e2 => (h.c k e2).2.2 e), fun k e => ⟨(h.un.a k e).1, Nat.lt_of_lt_of_le (h.un.a k e).2 hs2⟩, h.un.below.trans (ht.below (fun k e => (h.c k e).1) h.un.below.size)⟩, hb.mono (fun k hk e => ?_), fun k e => ?_⟩
  · rcases e with e | e
    · exact Or.inl e
    · exact Or.inr ⟨e, hk⟩
  · rcases e with e | e
    · exact ⟨(h.c k e).1, Nat.lt_of_lt_of_le (h.c k e).2.1 hs2, (h.c k e).2.2⟩
    · exact ⟨Nat.le_trans h.un.below.size e.1, e.2, fun e2 => by have := (h.un.a k e2).2; omega⟩
theorem tlEndA (T : TlAt w1 W g gc s2 cm A C) (O4 : OwnV W w1.heap.size 58 2 a4 k4 nr (pairV rl)) (hh : W.heap[kh]? = some ho) :
    TlRel w1 g gc s2 cm rs nr rl kh ho A C W.heap.size a4 k4 (W.alloc (.cells #[.int .i64 rs, .slice a4 nr k4, .slice none 0 0] 32)) :=
  ⟨rowN W _ rfl, O4.alloc _, T.stay ((Below.refl _ W).alloc (Nat.le_refl _) _), rowA hh _, fun e => Nat.lt_irrefl _ (T.c _ e).2.1⟩
theorem tlEndB (T : TlAt w1 W g gc s2 cm A C) (O4 : OwnV W w1.heap.size 58 2 a4 k4 nr (pairV rl)) (hh : W.heap[kh]? = some ho) (r9 : W.heap[g9]? = some (.cells #[.int .i64 0, .slice none 0 0, .slice none 0 0] 32)) (na : ¬ A g9) (nc : ¬ C g9) (lo : w1.heap.size ≤ g9) (hne : kh ≠ g9) :
    TlRel w1 g gc s2 cm rs nr rl kh ho A C g9 a4 k4 (((W.setCell ⟨g9, 0, none⟩ (.int .i64 rs)).setCell ⟨g9, 1, none⟩ (.slice a4 nr k4)).setCell ⟨g9, 2, none⟩ (.slice none 0 0)) := by
  obtain ⟨t1, r1⟩ := set3 (c := #[.int .i64 0, .slice none 0 0, .slice none 0 0]) r9 (.int .i64 rs) (.slice a4 nr k4) (.slice none 0 0)
  exact ⟨r1, own_set O4 r9 t1, T.aside t1 na nc lo, t1.row hh hne, nc⟩
theorem TlRel.stay (h : TlRel w1 g gc s2 cm rs nr rl kh ho A C g9 a4 k4 W) (hb : Below W.heap.size W W') : TlRel w1 g gc s2 cm rs nr rl kh ho A C g9 a4 k4 W' :=
  ⟨(hb.block g9 (row_lt h.r9)).trans h.r9, h.o4.stay hb, h.tl.stay hb, (hb.block kh (row_lt h.hh)).trans h.hh, h.n9⟩
theorem rowS {b b' o : Nat} {v : Value} {ob : Obj} (h : W.heap[b]? = some ob) (hne : b ≠ b') : (W.setCell ⟨b', o, none⟩ v).heap[b]? = some ob := (Turns.setCell (fun k => k = b') W ⟨b', o, none⟩ v rfl).row h hne
end
set_option maxRecDepth 100000 in
set_option maxHeartbeats 16000000 in
theorem tusTells_any (l : List Aq) (ao : Option Addr) (cap n : Nat) (keep : Int) (w : World) (hl : IsAqs w ao cap l) (hn : l.length = n) (hz : ∀ q ∈ l, aqz q ≤ 1125899906842624 ∧ ∀ p ∈ q.fl, p.1.size + p.2.size ≤ maxLen) (hN : n ≤ 140737488355328) (HBg : BegunIs w) (HDo : DoIs w) :
    Calls Tryz.prog 5 #[.slice ao n cap, .int .i64 keep] w fun e w' => e = .returned (.bool true) ∧ Below w.heap.size w w' := by
  subst hn
  have hcap := hl.cap_
  have H := Hid.mk' hl
  have HG : Hid (∀ W, Below w.heap.size w W → Calls Tryz.prog 7 #[.slice ao l.length cap] W fun e w' => GaOut W l e w') := fun W hW => greatAsks_any l ao cap l.length W (hl.stay hW) rfl hz hN
  have HSb := Hid.mk' (HBg (Below.refl _ _))
  have HD0 : Hid (DoIs w) := HDo
  clear hl hz HBg HDo
  go_enter Tryz.func5, Tryz.ntmps5
  go_wp2_with fail
  refine HSb.out.mono ?_
  rintro e w0 ⟨rfl, hb0⟩
  have HB0 := Hid.mk' hb0
  have HG1 := Hid.mk' (HG.out w0 hb0)
  clear hb0 HG HSb
  go_wp2_with fail
  refine HG1.out.mono ?_
  rintro e w1 ⟨b, rfl, hsm, q0, hw1⟩
  have HB1 : Hid (Below w.heap.size w w1) := then_ HB0.out (by rw [hw1]; exact below_drewN (Below.refl _ _) q0)
  clear hw1 HB0 HG1
  cases b with
  | true =>
    go_wp2
    go_ret
    exact ⟨rfl, HB1.out⟩
  | false =>
    have HSm := Hid.mk' (hsm rfl)
    have hfew := HSm.out.few
    have HNw := Hid.mk' (newSt_any w1)
    clear hsm
    go_wp2_with fail
    refine HNw.out.mono ?_
    rintro e w2 ⟨g, rfl, hS2, hb2⟩
    have HU2 : Hid (UnAt w1 w2 g Sr.new (fun k => w1.heap.size ≤ k ∧ k < w2.heap.size)) := ⟨hS2.mono (fun k hk e => ⟨e, hk⟩), fun k e => e, hb2⟩
    clear hS2 hb2 HNw
    obtain ⟨N, hNe⟩ : ∃ N, l.length + 1 = N := ⟨_, rfl⟩
    have hmk : ∀ w : World, (Instr.makeSlice 59 (.int .i64 ((l.length : Int) + 1)) (.int .i64 ((l.length : Int) + 1))).run Tryz.prog w = .ok (.slice (some ⟨w.heap.size, 0, none⟩) N N) (w.alloc (.cells (madeCells #[.slice none 0 0] N) 30)) := fun w => by
      have := run_make_row' (P := Tryz.prog) 59 30 (.slice none 0 0) 24 Tryz.underlying59 info_bst rfl .i64 .i64 N (by omega) (by omega) w
      rw [show ((N : Nat) : Int) = (l.length : Int) + 1 from by omega] at this
      exact this
    have HT2 : Hid (TlAt w1 (w2.alloc (.cells (madeCells #[.slice none 0 0] N) 30)) g w2.heap.size Sr.new (List.replicate N []) (fun k => w1.heap.size ≤ k ∧ k < w2.heap.size) (fun k => w2.heap.size ≤ k ∧ k < (w2.alloc (.cells (madeCells #[.slice none 0 0] N) 30)).heap.size)) := by
      have hm : madeCells #[.slice none 0 0] N = Array.replicate N (.slice none 0 0) := by
        apply Array.ext
        · simp [madeCells]
        · intro i h1 h2; simp [madeCells, Nat.mod_one]
      rw [hm]
      exact ⟨HU2.out.stay ((Below.refl _ w2).alloc (Nat.le_refl _) _), (BxO.made w2 30 5 N).mono (fun k hk e => ⟨e, hk⟩), fun k e => ⟨Nat.le_trans HU2.out.below.size e.1, e.2, fun e2 => by omega⟩⟩
    have HNe := Hid.mk' hNe
    have hNb : N ≤ 101 := by omega
    clear hNe HU2
    go_upto_region 7 with fail
    generalize (w2.alloc (.cells (madeCells #[.slice none 0 0] N) 30)) = w3 at *
    generalize w2.heap.size = gc at *
    clear hmk
    go_wp2
    go_loopw [7] (fun t wr => ∃ (k : Nat) (s : Sr.Sh) (cm : List (List UInt8)) (A C : Nat → Prop), k ≤ l.length ∧ t = .int .i64 k ∧ Tu.Came N k s cm ∧ LogIn l k s ∧ Tu.CmIn l k cm ∧ TlAt w1 wr g gc s cm A C) (fun t _ => l.length - (intOf t).toNat)
    case atStart => exact ⟨0, Sr.new, _, _, _, Nat.zero_le _, rfl, Tu.Came.new N, LogIn.new l, Tu.CmIn.new l N, HT2.out⟩
    case round =>
      obtain ⟨k, s, cm, A, C, hk, rfl, hcame, hlg, hcin, hT⟩ := hrel
      have HT := Hid.mk' hT
      have HCm := Hid.mk' hcame
      clear hT HT2 hcame
      by_cases hlt : k < l.length
      · have hlt' : (k : Int) < l.length := by omega
        obtain ⟨bb, oo, st, ha, hA1⟩ := (H.out.stay HB1.out).at_ k hlt
        subst ha
        obtain ⟨m1, m2, m3, m4, m5⟩ := HSm.out.one (List.getElem_mem hlt)
        have HC : Hid (∀ W, Below w1.heap.size w1 W → AqAt W bb (oo + k * 6) l[k] st) := fun W hW => hA1.stay hW
        have hfa : ∀ k, A k → k < wr.heap.size := fun k e => (HT.out.un.a k e).2
        have hfc : ∀ k, C k → k < wr.heap.size := fun k e => (HT.out.c k e).2.1
        have hzw : w1.heap.size ≤ wr.heap.size := HT.out.un.below.size
        have hlf := hlg.few HSm.out hk
        have ok := HCm.out.ok
        have HDc : Hid (∀ W, TlAt w1 W g gc s cm A C → Below wr.heap.size wr W → Calls Tryz.prog 10 #[.pointer (some ⟨g, 0, none⟩), .agg #[.string l[k].m, .string l[k].t, .int .i64 l[k].mi, .slice st.fo l[k].fl.length st.fcap, .int .i64 l[k].ln], .slice st.bo l[k].body.length st.bcap] W fun e w' => ∃ a4 k4 A4, e = .returned (.agg #[.int .i64 (((Tu.tus s l[k].m l[k].t l[k].fl l[k].body).2.1 : Nat) : Int), .slice a4 (Tu.tus s l[k].m l[k].t l[k].fl l[k].body).2.2.length k4, .slice none 0 0]) ∧ TlAt w1 w' g gc (Tu.tus s l[k].m l[k].t l[k].fl l[k].body).1 cm A4 C ∧ OwnV w' w1.heap.size 58 2 a4 k4 (Tu.tus s l[k].m l[k].t l[k].fl l[k].body).2.2.length (pairV (Tu.tus s l[k].m l[k].t l[k].fl l[k].body).2.2) ∧ (∀ b o, W.heap[b]? = some o → wr.heap.size ≤ b → w'.heap[b]? = some o ∧ ¬ A4 b)) := fun W hW hwW => (HD0.out (then_ HB1.out hW.un.below) (fun k e => Nat.le_trans HB1.out.size (hW.un.a k e).1) hW.un.st ok hlf _ _ _ _ _ _ _ (HC.out W hW.un.below).fl m1 m2 _ _ _ (HC.out W hW.un.below).body m3 m4 m5).mono (by
          rintro e w' ⟨⟨a4, k4, n4, rfl, hn4, hO4⟩, hat4, hT4⟩
          subst hn4
          exact ⟨a4, k4, _, rfl, hW.did hat4 hT4, hO4.mono (Nat.le_trans hzw hwW.size), fun b o hb hle => ⟨hT4.row hb (fun e => by have := hfa b e; omega), fun e => by
            have := row_lt hb
            rcases e with e | e
            · have := hfa b e; omega
            · omega⟩⟩)
        have hlg2 := hlg.step hlt
        have hfw := Tu.tus_few s l[k].m l[k].t l[k].fl l[k].body
        have hnm := Tu.tus_names s l[k].m l[k].t l[k].fl l[k].body
        have hcin2 := hcin.step (N := N) hlt (Tu.tus s l[k].m l[k].t l[k].fl l[k].body).2
        have hcz : ∀ c ∈ cm, c.length ≤ 20000 := fun c hc => Nat.le_trans (hcin c hc) (Nat.le_trans (aqN_take_le l k) HSm.out.sum)
        have hcz2 : ∀ c ∈ Tu.next N cm l[k].t l[k].body (Tu.tus s l[k].m l[k].t l[k].fl l[k].body).2, c.length ≤ 20000 := fun c hc => Nat.le_trans (hcin2 c hc) (Nat.le_trans (aqN_take_le l (k + 1)) HSm.out.sum)
        have hstep := HCm.out.step l[k].m l[k].t l[k].fl l[k].body (by have := HNe.out; omega)
        have HCs : Hid (∀ W, Below w1.heap.size w1 W → W.cell? ⟨bb, oo + k * 6, none⟩ = some (.string l[k].m) ∧ W.cell? ⟨bb, oo + k * 6 + 1, none⟩ = some (.string l[k].t) ∧ W.cell? ⟨bb, oo + k * 6 + 2, none⟩ = some (.int .i64 l[k].mi) ∧ W.cell? ⟨bb, oo + k * 6 + 3, none⟩ = some (.slice st.fo l[k].fl.length st.fcap) ∧ W.cell? ⟨bb, oo + k * 6 + 4, none⟩ = some (.int .i64 l[k].ln) ∧ W.cell? ⟨bb, oo + k * 6 + 5, none⟩ = some (.slice st.bo l[k].body.length st.bcap)) := fun W hW => ⟨(HC.out W hW).c0, (HC.out W hW).c1, (HC.out W hW).c2, (HC.out W hW).c3, (HC.out W hW).c4, (HC.out W hW).c5⟩
        have HBy : Hid (∀ W, Below w1.heap.size w1 W → IsB W st.bo st.bcap l[k].body) := fun W hW => (HC.out W hW).body
        have hbz : l[k].body.length ≤ 100000 := m3
        have htz : l[k].t.size ≤ 100000 := m5
        clear hA1 m1 m2 m3 m4 m5 hfa hlf hlg ok HC
        generalize Tu.tus s l[k].m l[k].t l[k].fl l[k].body = r at *
        obtain ⟨s2, rs, rl⟩ := r
        simp only at hlg2 hfw hnm hcin2 hcz2 hstep HDc
        have HLg2 := Hid.mk' hlg2; have HStep := Hid.mk' hstep; have HNm := Hid.mk' hnm; have HCi2 := Hid.mk' hcin2; have HCz := Hid.mk' hcz; have HCz2 := Hid.mk' hcz2
        clear hlg2 hstep hnm hcin hcin2 hcz hcz2
        generalize l[k] = p at *
        generalize hnr : rl.length = nr at *
        have HNr := Hid.mk' hnr
        clear hnr
        obtain ⟨c0, c1, c2, c3, c4, c5⟩ := HCs.out wr HT.out.un.below
        -- the head, in a box of its own
        have hbh := (Below.refl _ wr).alloc (Nat.le_refl _) (.cells #[.string p.m, .string p.t, .int .i64 p.mi, .slice st.fo p.fl.length st.fcap, .int .i64 p.ln] 35)
        have HBh := Hid.mk' hbh
        have hhh : (wr.alloc (.cells #[.string p.m, .string p.t, .int .i64 p.mi, .slice st.fo p.fl.length st.fcap, .int .i64 p.ln] 35)).heap[wr.heap.size]? = some (.cells #[.string p.m, .string p.t, .int .i64 p.mi, .slice st.fo p.fl.length st.fcap, .int .i64 p.ln] 35) := rowN wr _ rfl
        have HHh := Hid.mk' hhh
        have hzh : (wr.alloc (.cells #[.string p.m, .string p.t, .int .i64 p.mi, .slice st.fo p.fl.length st.fcap, .int .i64 p.ln] 35)).heap.size = wr.heap.size + 1 := World.size_alloc ..
        have HHc : Hid (∀ W : World, W.heap[wr.heap.size]? = some (.cells #[.string p.m, .string p.t, .int .i64 p.mi, .slice st.fo p.fl.length st.fcap, .int .i64 p.ln] 35) → W.cell? ⟨wr.heap.size, 0, none⟩ = some (.string p.m) ∧ W.cell? ⟨wr.heap.size, 1, none⟩ = some (.string p.t) ∧ W.cell? ⟨wr.heap.size, 2, none⟩ = some (.int .i64 p.mi) ∧ W.cell? ⟨wr.heap.size, 3, none⟩ = some (.slice st.fo p.fl.length st.fcap) ∧ W.cell? ⟨wr.heap.size, 4, none⟩ = some (.int .i64 p.ln)) := fun W hr => ⟨cell_of_row W _ 0 _ _ _ hr, cell_of_row W _ 1 _ _ _ hr, cell_of_row W _ 2 _ _ _ hr, cell_of_row W _ 3 _ _ _ hr, cell_of_row W _ 4 _ _ _ hr⟩
        obtain ⟨d0, d1, d2, d3, d4⟩ := HHc.out _ hhh
        have c5h := (HCs.out _ (then_ HT.out.un.below hbh)).2.2.2.2.2
        clear hbh hhh
        go_upto_region 11 with fail
        generalize (wr.alloc (.cells #[.string p.m, .string p.t, .int .i64 p.mi, .slice st.fo p.fl.length st.fcap, .int .i64 p.ln] 35)) = wh at *
        have HBw0 : Hid (Below wr.heap.size wr wh.drew) := then_ HBh.out (below_drew _ _)
        have HBw1 : Hid (Below wr.heap.size wr (wh.alloc (.cells #[.int .i64 0, .slice none 0 0, .slice none 0 0] 32)).drew) := then_ (belA HBh.out _) (below_drew _ _)
        have HT0 := Hid.mk' (HT.out.stay HBw0.out)
        have HT1 := Hid.mk' (HT.out.stay HBw1.out)
        have HBl0 := Hid.mk' HT0.out.un.below
        have HBl1 := Hid.mk' HT1.out.un.below
        have rh0 : Hid (wh.drew.heap[wr.heap.size]? = some (.cells #[.string p.m, .string p.t, .int .i64 p.mi, .slice st.fo p.fl.length st.fcap, .int .i64 p.ln] 35)) := HHh.out
        have rh1 : Hid ((wh.alloc (.cells #[.int .i64 0, .slice none 0 0, .slice none 0 0] 32)).drew.heap[wr.heap.size]? = some (.cells #[.string p.m, .string p.t, .int .i64 p.mi, .slice st.fo p.fl.length st.fcap, .int .i64 p.ln] 35)) := rowA HHh.out _
        have e10 : Hid ((wh.alloc (.cells #[.int .i64 0, .slice none 0 0, .slice none 0 0] 32)).drew.heap[wh.heap.size]? = some (.cells #[.int .i64 0, .slice none 0 0, .slice none 0 0] 32)) := rowN wh _ rfl
        have HS1 : Hid (∀ W, Below w1.heap.size w1 W → W.heap[wr.heap.size]? = some (.cells #[.string p.m, .string p.t, .int .i64 p.mi, .slice st.fo p.fl.length st.fcap, .int .i64 p.ln] 35) → W.cell? ⟨wr.heap.size, 0, none⟩ = some (.string p.m) ∧ W.cell? ⟨wr.heap.size, 1, none⟩ = some (.string p.t) ∧ W.cell? ⟨wr.heap.size, 2, none⟩ = some (.int .i64 p.mi) ∧ W.cell? ⟨wr.heap.size, 3, none⟩ = some (.slice st.fo p.fl.length st.fcap) ∧ W.cell? ⟨wr.heap.size, 4, none⟩ = some (.int .i64 p.ln) ∧ W.cell? ⟨bb, oo + k * 6 + 5, none⟩ = some (.slice st.bo p.body.length st.bcap)) := fun W hb hr => ⟨(HHc.out W hr).1, (HHc.out W hr).2.1, (HHc.out W hr).2.2.1, (HHc.out W hr).2.2.2.1, (HHc.out W hr).2.2.2.2, (HCs.out W hb).2.2.2.2.2⟩
        have hzz : wr.heap.size ≤ wh.heap.size := by omega
        have hzl : wr.heap.size < wh.heap.size := by omega
        clear hzh
        go_cut [9] from 25 to 115 (fun v9 wc => ∃ (g9 : Nat) (a4 : Option Addr) (k4 : Nat) (A' : Nat → Prop), v9 = .pointer (some ⟨g9, 0, none⟩) ∧ TlRel w1 g gc s2 cm (rs : Int) nr rl wr.heap.size (.cells #[.string p.m, .string p.t, .int .i64 p.mi, .slice st.fo p.fl.length st.fcap, .int .i64 p.ln] 35) A' C g9 a4 k4 wc)
        case first =>
          go_region_held3 (fun W => W.cell? ⟨wr.heap.size, 0, none⟩ = some (.string p.m) ∧ W.cell? ⟨wr.heap.size, 1, none⟩ = some (.string p.t) ∧ W.cell? ⟨wr.heap.size, 2, none⟩ = some (.int .i64 p.mi) ∧ W.cell? ⟨wr.heap.size, 3, none⟩ = some (.slice st.fo p.fl.length st.fcap) ∧ W.cell? ⟨wr.heap.size, 4, none⟩ = some (.int .i64 p.ln) ∧ W.cell? ⟨bb, oo + k * 6 + 5, none⟩ = some (.slice st.bo p.body.length st.bcap)) (first | (refine HS1.out _ ?_ ?_ <;> (repeat first | with_reducible exact HBl4.out | with_reducible exact rh4.out | with_reducible exact HBl0.out | with_reducible exact HBl1.out | with_reducible exact rh0.out | with_reducible exact rh1.out | refine belS ?_ (by omega) | refine rowS ?_ (by omega) | refine belA ?_ _ | refine rowA ?_ _))) (first
            | (go_at_call 10; refine (HDc.out _ (by first | with_reducible exact HT0.out | with_reducible exact HT1.out) (by first | with_reducible exact HBw0.out | with_reducible exact HBw1.out)).mono ?_; rintro e w4 ⟨a4, k4, A4, rfl, hT4, hO4, hK4⟩; have HK4 := Hid.mk' hK4; have HT4 := Hid.mk' hT4; have HO4 := Hid.mk' hO4; have HBl4 := Hid.mk' hT4.un.below; have hy4 := hT4.un.below.size; clear hK4 hT4 hO4; (try (with_reducible have rh4 := Hid.mk' (HK4.out _ _ rh0.out (Nat.le_refl _)).1)); (try (with_reducible have rh4 := Hid.mk' (HK4.out _ _ rh1.out (Nat.le_refl _)).1)); have hlt4 := row_lt rh4.out; (try (with_reducible have r40 := Hid.mk' (HK4.out _ _ e10.out hzz).1; have x40 := Hid.mk' (HK4.out _ _ e10.out hzz).2)); (try (have sx := box6 r40.out; obtain ⟨i0, i1, i2, i3, i4, i5⟩ := sx))))
          all_goals
            go_wp2
            go_meet
            refine ⟨_, a4, k4, A4, rfl, ?_⟩
            first
              | with_reducible exact tlEndA HT4.out HO4.out rh4.out
              | with_reducible exact tlEndB HT4.out HO4.out rh4.out r40.out x40.out (fun e => by have := hfc _ e; omega) (by omega) (by omega)
        case rest =>
          obtain ⟨g9, a4, k4, A', rfl, hR⟩ := hcut
          have HR := Hid.mk' hR
          clear hR HBw0 HBw1 HT0 HT1 HBl0 HBl1 rh0 rh1 e10 HDc c0 c1 c2 c3 c4 c5 d0 d1 d2 d3 d4 c5h
          have HX9 : Hid (∀ W CM CC, TlRel w1 g gc s2 CM (rs : Int) nr rl wr.heap.size (.cells #[.string p.m, .string p.t, .int .i64 p.mi, .slice st.fo p.fl.length st.fcap, .int .i64 p.ln] 35) A' CC g9 a4 k4 W → (W.cell? ⟨g9, 0, none⟩ = some (.int .i64 (rs : Int)) ∧ W.cell? ⟨g9, 1, none⟩ = some (.slice a4 nr k4)) ∧ W.cell? ⟨wr.heap.size, 1, none⟩ = some (.string p.t)) := fun W CM CC h => ⟨⟨cell_of_row W _ 0 _ _ _ h.r9, cell_of_row W _ 1 _ _ _ h.r9⟩, (HHc.out W h.hh).2.1⟩
          obtain ⟨⟨x0, x1⟩, x2⟩ := HX9.out _ _ _ HR.out
          by_cases h201 : rs = 201
          · have tb : ((rs : Int) == 201) = true := by rw [beq_iff_eq]; omega
            have hst := HStep.out.1
            have hci := HCi2.out
            rw [Tu.next_made h201] at hst hci
            have HSt := Hid.mk' hst; have HCi := Hid.mk' hci
            clear hst hci h201
            go_wp2
            go_roundw
            case rel => exact ⟨k + 1, s2, cm, _, _, by omega, by go_num, HSt.out, HLg2.out, HCi.out, HR.out.tl⟩
            case measure => simp [intOf]; omega
          · have tb : ((rs : Int) == 201) = false := by rw [beq_eq_false_iff_ne]; omega
            obtain ⟨okb, hokb⟩ : ∃ b, (decide (7 < p.t.size) && decide (p.t.data.toList.take 1 = [47])) = b := ⟨_, rfl⟩
            go_upto_region 13 with fail
            go_cut [10, 11] from 25 to 115 (fun v10 v11 wd => v10 = .int .i64 0 ∧ v11 = .bool okb ∧ TlRel w1 g gc s2 cm (rs : Int) nr rl wr.heap.size (.cells #[.string p.m, .string p.t, .int .i64 p.mi, .slice st.fo p.fl.length st.fcap, .int .i64 p.ln] 35) A' C g9 a4 k4 wd)
            case first =>
              by_cases h7 : 7 < p.t.size
              · have h7' : (7 : Int) < (p.t.size : Int) := by omega
                have h1' : (1 : Int) ≤ (p.t.size : Int) := by omega
                obtain ⟨b1, hb1⟩ : ∃ b, ((p.t.extract 0 1).toList == ([47] : List UInt8)) = b := ⟨_, rfl⟩
                have ho : okb = b1 := by
                  rw [← hokb, decide_eq_true h7, Bool.true_and, ← hb1, Tu.pre1, Bool.eq_iff_iff, decide_eq_true_eq, beq_iff_eq]
                subst ho
                clear hokb h7
                go_quiet (fail)
                go_wp2
                go_meet
                exact ⟨rfl, rfl, HR.out.stay (below_drewN (Below.refl _ _) _)⟩
              · have h7' : ¬ (7 : Int) < (p.t.size : Int) := by omega
                have ho : okb = false := by rw [← hokb, decide_eq_false h7]; rfl
                subst ho
                clear hokb h7
                go_quiet (fail)
                go_wp2
                go_meet
                exact ⟨rfl, rfl, HR.out.stay (below_drewN (Below.refl _ _) _)⟩
            case rest =>
              obtain ⟨rfl, rfl, hR2⟩ := hcut
              have HR2 := Hid.mk' hR2
              clear hR2 HR x0 x1 x2
              obtain ⟨⟨x0, x1⟩, x2⟩ := HX9.out _ _ _ HR2.out
              have HNL : Hid (Tu.numL p.t = if okb = true then Ch.number 10 9 (p.t.data.toList.drop 7) else (0, false)) := by
                unfold Hid Tu.numL
                by_cases hc : 7 < p.t.size ∧ p.t.data.toList.take 1 = [47]
                · rw [if_pos hc, if_pos (by rw [← hokb, decide_eq_true hc.1, decide_eq_true hc.2]; rfl)]
                · rw [if_neg hc, if_neg (fun e => hc (by rw [← hokb, Bool.and_eq_true, decide_eq_true_eq, decide_eq_true_eq] at e; exact e))]
              have HZ7 : Hid (okb = true → 7 ≤ p.t.size) := fun e => by rw [← hokb, Bool.and_eq_true, decide_eq_true_eq] at e; omega
              clear hokb
              go_upto_if 57 with fail
              go_cut [10, 11] from 25 to 115 (fun v10 v11 wd => v10 = .int .i64 (Tu.numL p.t).1 ∧ v11 = .bool (Tu.numL p.t).2 ∧ TlRel w1 g gc s2 cm (rs : Int) nr rl wr.heap.size (.cells #[.string p.m, .string p.t, .int .i64 p.mi, .slice st.fo p.fl.length st.fcap, .int .i64 p.ln] 35) A' C g9 a4 k4 wd)
              case first =>
                cases okb with
                | false =>
                  have hnl : Tu.numL p.t = (0, false) := by rw [HNL.out]; simp
                  go_wp2
                  go_meet
                  exact ⟨by rw [hnl], by rw [hnl], HR2.out⟩
                | true =>
                  have h7' : (7 : Int) ≤ (p.t.size : Int) := by have := HZ7.out rfl; omega
                  have hnl : Tu.numL p.t = Ch.number 10 9 (p.t.data.toList.drop 7) := by rw [HNL.out]; simp
                  have HNo : Hid (∀ W, Calls Tryz.prog 19 #[.string (p.t.extract 7 p.t.size)] W fun e w' => e = .returned (.tuple #[.int .i64 (Tu.numL p.t).1, .bool (Tu.numL p.t).2]) ∧ Below W.heap.size W w') := fun W => by
                    have := numberOf_any (p.t.extract 7 p.t.size) W (by rw [ByteArray.size_extract]; unfold maxLen; omega)
                    rw [Tu.from7, ← hnl] at this
                    exact this
                  clear hnl HNL HZ7
                  generalize Tu.numL p.t = nl at *
                  go_wp2_with fail
                  refine (HNo.out _).mono ?_
                  rintro e we ⟨rfl, hwe⟩
                  have HR3 := Hid.mk' (HR2.out.stay hwe)
                  clear hwe
                  go_wp2
                  go_meet
                  exact ⟨rfl, rfl, HR3.out⟩
              case rest =>
                obtain ⟨rfl, rfl, hR3⟩ := hcut
                have HR3 := Hid.mk' hR3
                clear hR3 HR2 x0 x1 x2 HNL HZ7
                obtain ⟨⟨x0, x1⟩, x2⟩ := HX9.out _ _ _ HR3.out
                generalize hnl : Tu.numL p.t = nl at *
                obtain ⟨x, okx⟩ := nl
                have HNl := Hid.mk' hnl
                clear hnl
                simp only
                cases okx with
                | false =>
                  have hnx : Tu.next N cm p.t p.body (rs, rl) = cm := Tu.next_far h201 (Or.inl (by rw [HNl.out]))
                  have hst := HStep.out.1
                  have hci := HCi2.out
                  rw [hnx] at hst hci
                  have HSt := Hid.mk' hst; have HCi := Hid.mk' hci
                  clear hst hci hnx h201
                  go_wp2
                  go_roundw
                  case rel => exact ⟨k + 1, s2, cm, _, _, by omega, by go_num, HSt.out, HLg2.out, HCi.out, HR3.out.tl⟩
                  case measure => simp [intOf]; omega
                | true =>
                  have hx0 : 0 ≤ x := by have := Tu.numL_pos (t := p.t) (by rw [HNl.out]); rw [HNl.out] at this; exact this
                  by_cases hxN : (N : Int) ≤ x
                  · have tN : decide (x ≥ (N : Int)) = true := decide_eq_true hxN
                    have hnx : Tu.next N cm p.t p.body (rs, rl) = cm := Tu.next_far h201 (Or.inr (by rw [HNl.out]; exact hxN))
                    have hst := HStep.out.1
                    have hci := HCi2.out
                    rw [hnx] at hst hci
                    have HSt := Hid.mk' hst; have HCi := Hid.mk' hci
                    clear hst hci hnx h201 hxN
                    go_wp2
                    go_roundw
                    case rel => exact ⟨k + 1, s2, cm, _, _, by omega, by go_num, HSt.out, HLg2.out, HCi.out, HR3.out.tl⟩
                    case measure => simp [intOf]; omega
                  · have tN : decide (x ≥ (N : Int)) = false := decide_eq_false hxN
                    obtain ⟨i, rfl⟩ : ∃ i : Nat, x = (i : Int) := ⟨x.toNat, by omega⟩
                    have hiN : i < N := by omega
                    have hiN' : (i : Int) < (N : Int) := by omega
                    have hic : i < cm.length := by rw [HCm.out.len]; exact hiN
                    have hfar : ¬ ((Tu.numL p.t).2 = false ∨ (N : Int) ≤ (Tu.numL p.t).1) := by rw [HNl.out]; exact fun e => e.elim (fun e => by cases e) (fun e => hxN e)
                    have HFar := Hid.mk' hfar
                    clear hfar hxN
                    have HOn : Hid (∀ W, TlRel w1 g gc s2 cm (rs : Int) nr rl wr.heap.size (.cells #[.string p.m, .string p.t, .int .i64 p.mi, .slice st.fo p.fl.length st.fcap, .int .i64 p.ln] 35) A' C g9 a4 k4 W → Calls Tryz.prog 20 #[.slice a4 nr k4, .string Tu.nUO] W fun e w' => e = .returned (txVal (Tu.one (Tu.vals Tu.nUO rl))) ∧ Below W.heap.size W w') := fun W hW => by
                      have := oneOf_any rl Tu.nUO a4 k4 nr W hW.o4.isV HNr.out (by omega) (fun p hp => HNm.out p hp) (by decide)
                      rw [Tu.one_eq, Tu.vals_eq] at this
                      exact this
                    have HO1 := Hid.mk' (HOn.out _ HR3.out)
                    unfold Tu.nUO at HO1
                    rw [show (⟨#[117, 112, 108, 111, 97, 100, 45, 111, 102, 102, 115, 101, 116]⟩ : ByteArray) = Tu.nUO from rfl] at HO1
                    generalize hoe : Tu.one (Tu.vals Tu.nUO rl) = ro at *
                    obtain ⟨v, c⟩ := ro
                    have HOe := Hid.mk' hoe
                    unfold txVal at HO1
                    clear HOn hoe
                    generalize hvb : (⟨v.toArray⟩ : ByteArray) = vb at *
                    have HVb := Hid.mk' hvb
                    clear hvb
                    unfold Tu.nUO at HO1
                    go_wp2_with fail
                    refine HO1.out.mono ?_
                    rintro e wf ⟨rfl, hwf⟩
                    have HR4 := Hid.mk' (HR3.out.stay hwf)
                    clear hwf HR3 HO1 x0 x1 x2
                    obtain ⟨⟨x0, x1⟩, x2⟩ := HX9.out _ _ _ HR4.out
                    have HT4 := Hid.mk' HR4.out.tl
                    have c5 := (HCs.out wf HR4.out.tl.un.below).2.2.2.2.2
                    by_cases hc0 : c = 0
                    case neg =>
                      have tc : ((c : Int) == 0) = false := by rw [beq_eq_false_iff_ne]; omega
                      have hnx : Tu.next N cm p.t p.body (rs, rl) = cm := Tu.next_not h201 HFar.out (fun e => hc0 (by have := e.2; rw [HOe.out] at this; exact this))
                      have hst := HStep.out.1
                      have hci := HCi2.out
                      rw [hnx] at hst hci
                      have HSt := Hid.mk' hst; have HCi := Hid.mk' hci
                      clear hst hci hnx hc0
                      obtain ⟨b204, hb204⟩ : ∃ b, ((rs : Int) == 204) = b := ⟨_, rfl⟩
                      cases b204 with
                      | true =>
                        go_wp2
                        go_roundw
                        case rel => exact ⟨k + 1, s2, cm, _, _, by omega, by go_num, HSt.out, HLg2.out, HCi.out, HT4.out⟩
                        case measure => simp [intOf]; omega
                      | false =>
                        go_wp2
                        go_roundw
                        case rel => exact ⟨k + 1, s2, cm, _, _, by omega, by go_num, HSt.out, HLg2.out, HCi.out, HT4.out⟩
                        case measure => simp [intOf]; omega
                    subst hc0
                    by_cases h204 : rs = 204
                    case neg =>
                      have tb4 : ((rs : Int) == 204) = false := by rw [beq_eq_false_iff_ne]; omega
                      have hnx : Tu.next N cm p.t p.body (rs, rl) = cm := Tu.next_not h201 HFar.out (fun e => h204 e.1)
                      have hst := HStep.out.1
                      have hci := HCi2.out
                      rw [hnx] at hst hci
                      have HSt := Hid.mk' hst; have HCi := Hid.mk' hci
                      clear hst hci h204
                      obtain ⟨bo6, bc6, cf, _, _, _, _⟩ := HT4.out.bx.at_ i hic
                      have hrt := HStep.out.2
                      rw [hnx] at hrt
                      have hv : v = Ch.decF 8 (cm[i]'hic).length ∧ rs < 400 := by
                        unfold Tu.right at hrt
                        rw [HNl.out, HOe.out] at hrt
                        rcases hrt with e | e | e | e | e
                        · exact absurd e h201
                        · cases e
                        · exact absurd e (by simp; omega)
                        · exact absurd rfl e
                        · refine ⟨?_, e.2⟩
                          have h1 := e.1
                          simp only [Int.toNat_natCast] at h1
                          rw [List.getElem?_eq_getElem hic] at h1
                          exact h1
                      obtain ⟨hv1, hv2⟩ := hv
                      have t400 : decide ((rs : Int) ≥ 400) = false := by rw [decide_eq_false_iff_not]; omega
                      have hlz : (cm[i]'hic).length ≤ 20000 := HCz.out _ (List.getElem_mem _)
                      have HNum : Hid (∀ W, Calls Tryz.prog 21 #[.int .i64 (((cm[i]'hic).length : Nat) : Int)] W fun e w' => e = .returned (.string vb) ∧ ∃ q, w' = W.drewN q) := fun W => by
                        have := numI_any (((cm[i]'hic).length : Nat) : Int) (by omega) (by omega) W
                        rw [Int.toNat_natCast] at this
                        have hd : Tu.dec (cm[i]'hic).length = vb := by rw [← HVb.out, hv1]; rfl
                        rw [hd] at this
                        exact this
                      clear hrt hv1 hv2 hlz
                      generalize (cm[i]'hic).length = lc at *
                      go_wp2_with fail
                      refine (HNum.out _).mono ?_
                      rintro e wg ⟨rfl, qg, hwg⟩
                      rw [hwg]
                      clear hwg
                      have x0g : (wf.drewN qg).cell? ⟨g9, 0, none⟩ = some (.int .i64 (rs : Int)) := x0
                      have HTg := Hid.mk' (HT4.out.stay (below_drewN (Below.refl _ _) qg))
                      clear hnx
                      go_wp2
                      go_roundw
                      case rel => exact ⟨k + 1, s2, cm, _, _, by omega, by go_num, HSt.out, HLg2.out, HCi.out, HTg.out⟩
                      case measure => simp [intOf]; omega
                    have tb4 : ((rs : Int) == 204) = true := by rw [beq_iff_eq]; omega
                    have hnx := Tu.next_set (cm := cm) (body := p.body) h201 HFar.out ⟨h204, by rw [HOe.out]⟩
                    rw [HNl.out] at hnx
                    simp only [Int.toNat_natCast] at hnx
                    rw [List.getElem?_eq_getElem hic, Option.getD_some] at hnx
                    have hst := HStep.out.1
                    have hci := HCi2.out
                    have hczE := HCz2.out
                    rw [hnx] at hst hci hczE
                    obtain ⟨bo5, bc5, ce, fe, _, hGrw, hput⟩ := HT4.out.bx.at_ i hic
                    have hcl : (cm[i]'hic).length ≤ 20000 := HCz.out _ (List.getElem_mem hic)
                    have HPut := Hid.mk' hput
                    have HGr : Hid (GrowB wf.drew (fun k => C k ∧ k ≠ gc) 5 bo5 bc5 (cm[i]'hic)) := hGrw.turns (Turns.of_below (S := fun _ => False) (below_drew _ _)) (fun _ _ e => e)
                    have HBe : Hid (IsB wf.drew st.bo st.bcap p.body) := HBy.out _ (then_ HR4.out.tl.un.below (below_drew _ _))
                    have HZz : Hid ((cm[i]'hic).length + p.body.length ≤ 140737488355328) := by unfold Hid; omega
                    have HX0 : Hid (∀ W, Turns C wf W → W.cell? ⟨g9, 0, none⟩ = some (.int .i64 (rs : Int))) := fun W ht => cell_of_row W _ 0 _ _ _ (ht.row HR4.out.r9 HR4.out.n9)
                    obtain ⟨u0, hu0, hy0, hy1, hy2⟩ := info_parts info_u8
                    have Hu := Hid.mk' hu0; have Hy0 := Hid.mk' hy0; have Hy1 := Hid.mk' hy1; have Hy2 := Hid.mk' hy2
                    obtain ⟨cmz, hcmz⟩ : ∃ z, cm.set i ((cm[i]'hic) ++ p.body) = z := ⟨_, rfl⟩
                    have hic2 : i < cmz.length := by rw [← hcmz, List.length_set]; exact hic
                    have HPu : Hid (∀ bo3 cap3 w9, GrowB w9 (fun k => blkB (cm[i]'hic) bo5 = some k ∨ wf.drew.heap.size ≤ k) 5 bo3 cap3 ((cm[i]'hic) ++ p.body) → Turns (fun k => blkB (cm[i]'hic) bo5 = some k) wf.drew w9 → w9.cell? ⟨gc, i, none⟩ = some (.slice bo5 (cm[i]'hic).length bc5) ∧ w9.frozen? ⟨gc, i, none⟩ = false ∧ BxO (w9.setCell ⟨gc, i, none⟩ (.slice bo3 ((cm[i]'hic).length + p.body.length) cap3)) (orNew C wf) 30 5 gc cmz ∧ Turns C wf (w9.setCell ⟨gc, i, none⟩ (.slice bo3 ((cm[i]'hic).length + p.body.length) cap3))) := fun bo3 cap3 w9 h1 h2 => by
                      have := HPut.out bo3 cap3 ((cm[i]'hic).length + p.body.length) w9 ((cm[i]'hic) ++ p.body) (by rw [List.length_append]) h1 ((Turns.of_below (below_drew _ _)).trans h2 (fun _ e _ => e))
                      rw [hcmz] at this
                      exact this
                    rw [hcmz] at hnx hst hci hczE
                    have HSt := Hid.mk' hst; have HCi := Hid.mk' hci; have HCzE := Hid.mk' hczE; have HNx := Hid.mk' hnx
                    clear hst hci hczE hput hGrw hu0 hy0 hy1 hy2 hcmz hcl HPut hnx
                    generalize (cm[i]'hic) = cmi at *
                    go_upto_region 19 with fail
                    go_cut [97] from 25 to 115 (fun _ wz => ∃ CC, TlAt w1 wz g gc s2 cmz A' CC ∧ wz.cell? ⟨g9, 0, none⟩ = some (.int .i64 (rs : Int)))
                    case first =>
                      go_region_law
                        ((refine step_append_grown (by rfl) _ _ _ (by rfl) 5 u0 Tryz.underlying30 Hu.out Hy0.out Hy1.out Hy2.out (by rfl) (by rfl) HGr.out rfl HBe.out rfl HZz.out ?_; intro bo3 cap3 w9 hO3 hT3; obtain ⟨k0, k1, k2, k3⟩ := HPu.out bo3 cap3 w9 hO3 hT3; have HB9 := Hid.mk' k2; have HT9 := Hid.mk' k3; clear hO3 hT3 k2 k3))
                      all_goals
                        go_wp2
                        go_meet
                        exact ⟨_, HT4.out.grew HB9.out HT9.out, HX0.out _ HT9.out⟩
                    case rest =>
                      obtain ⟨CC, hTz, hx0⟩ := hcut
                      have HTz := Hid.mk' hTz
                      clear hTz HGr HBe HZz HX0 HPu x0 x1 x2 ce fe
                      have x0 := hx0
                      clear hx0
                      obtain ⟨bo6, bc6, cf, _, _, _, _⟩ := HTz.out.bx.at_ i hic2
                      have hrt := HStep.out.2
                      rw [HNx.out] at hrt
                      have hv : v = Ch.decF 8 (cmz[i]'hic2).length ∧ rs < 400 := by
                        unfold Tu.right at hrt
                        rw [HNl.out, HOe.out] at hrt
                        rcases hrt with e | e | e | e | e
                        · exact absurd e h201
                        · cases e
                        · exact absurd e (by simp; omega)
                        · exact absurd rfl e
                        · refine ⟨?_, e.2⟩
                          have h1 := e.1
                          simp only [Int.toNat_natCast] at h1
                          rw [List.getElem?_eq_getElem hic2] at h1
                          exact h1
                      obtain ⟨hv1, hv2⟩ := hv
                      have t400 : decide ((rs : Int) ≥ 400) = false := by rw [decide_eq_false_iff_not]; omega
                      have hlz : (cmz[i]'hic2).length ≤ 20000 := HCzE.out _ (List.getElem_mem _)
                      have HNum : Hid (∀ W, Calls Tryz.prog 21 #[.int .i64 (((cmz[i]'hic2).length : Nat) : Int)] W fun e w' => e = .returned (.string vb) ∧ ∃ q, w' = W.drewN q) := fun W => by
                        have := numI_any (((cmz[i]'hic2).length : Nat) : Int) (by omega) (by omega) W
                        rw [Int.toNat_natCast] at this
                        have hd : Tu.dec (cmz[i]'hic2).length = vb := by rw [← HVb.out, hv1]; rfl
                        rw [hd] at this
                        exact this
                      clear hrt hv1 hv2 hlz
                      generalize (cmz[i]'hic2).length = lc at *
                      go_wp2_with fail
                      refine (HNum.out _).mono ?_
                      rintro e wg ⟨rfl, qg, hwg⟩
                      rw [hwg]
                      clear hwg
                      have x0g : (wc.drewN qg).cell? ⟨g9, 0, none⟩ = some (.int .i64 (rs : Int)) := x0
                      have HTg := Hid.mk' (HTz.out.stay (below_drewN (Below.refl _ _) qg))
                      go_wp2
                      go_roundw
                      case rel => exact ⟨k + 1, s2, cmz, _, _, by omega, by go_num, HSt.out, HLg2.out, HCi.out, HTg.out⟩
                      case measure => simp [intOf]; omega
      · obtain rfl : k = l.length := by omega
        have HCr := Hid.mk' (crashSt_any HT.out.un.st HCm.out.ok keep)
        have okc := HCm.out.ok.crash keep
        have HEn : Hid (∀ u ∈ (Sr.crash s keep).h.l, 0 ≤ u.id ∧ u.id < N ∧ cm[u.id.toNat]? = some u.bytes) := HCm.out.ends (by have := HNe.out; omega) keep
        have hlen := HCm.out.len
        have HLen := Hid.mk' hlen
        clear hlen hlg hcin
        generalize Sr.crash s keep = sc at *
        have HOc := Hid.mk' okc
        clear okc
        go_wp2_with fail
        refine HCr.out.mono ?_
        rintro e w5 ⟨rfl, hat, hT5⟩
        have HT5 := Hid.mk' (HT.out.did hat hT5)
        clear hat hT5 HCr
        obtain ⟨ks, kl, kao, kca, P1, hst⟩ := HT5.out.un.st
        obtain ⟨⟨y0, y1⟩, _⟩ := row2 hst.row
        have HLs := Hid.mk' (listU_any _ P1 _ w5 hst.spool HOc.out.h.small)
        have hfw := HOc.out.h.few
        clear hst y1
        generalize hul : sc.h.l.length = un at *
        have HUl := Hid.mk' hul
        clear hul
        go_wp2_with fail
        refine HLs.out.mono ?_
        rintro e w6 ⟨al, rfl, hU6, hb6⟩
        have HT6 := Hid.mk' (HT5.out.stay hb6)
        have HU6 := Hid.mk' hU6.isUps
        have hcu := hU6.cap_
        rw [HUl.out] at hcu
        clear hU6 hb6 HLs HT5 y0
        generalize (fun k => A k ∨ (wr.heap.size ≤ k ∧ k < w5.heap.size)) = A5 at *
        go_wp2
        go_loopw [15] (fun t wq => ∃ j : Nat, j ≤ un ∧ t = .int .i64 j ∧ TlAt w1 wq g gc sc cm A5 C ∧ IsUps wq al un sc.h.l) (fun t _ => un - (intOf t).toNat)
        case atStart => exact ⟨0, Nat.zero_le _, rfl, HT6.out, HU6.out⟩
        case round =>
          obtain ⟨j, hj, rfl, hTj, hUj⟩ := hrel
          have HTj := Hid.mk' hTj
          have HUj := Hid.mk' hUj
          clear hTj hUj HT6 HU6
          by_cases hjl : j < un
          · have hjl' : (j : Int) < (un : Int) := by omega
            have hjs : j < sc.h.l.length := by rw [HUl.out]; exact hjl
            obtain ⟨ub, uo, us, ha, u0, u1, u2, u3, u4, hUB⟩ := HUj.out.at_ j hjs
            subst ha
            obtain ⟨hi0, hi1, hi2⟩ := HEn.out _ (List.getElem_mem hjs)
            generalize (sc.h.l[j]'hjs) = u at *
            have hic : u.id.toNat < cm.length := (List.getElem?_eq_some_iff.1 hi2).1
            obtain ⟨bo5, bc5, ce, q1, hIB, q2, q3⟩ := HTj.out.bx.at_ u.id.toNat hic
            clear q1 q2 q3
            have hce : (cm[u.id.toNat]'hic) = u.bytes := by rw [List.getElem?_eq_getElem hic] at hi2; injection hi2
            rw [hce] at ce hIB
            have t0 : decide (u.id < 0) = false := by rw [decide_eq_false_iff_not]; omega
            have tN : decide (u.id ≥ (N : Int)) = false := by rw [decide_eq_false_iff_not]; omega
            have HSB : Hid (Calls Tryz.prog 16 #[.slice us.bo u.bytes.length us.bcap, .slice bo5 u.bytes.length bc5] wr.drew fun e w' => e = .returned (.bool true) ∧ w' = wr.drew) := (sameBytes_any wr.drew us.bo bo5 us.bcap bc5 _ _ u.bytes u.bytes rfl rfl (hUB.stay (below_drew _ _)) (hIB.stay (below_drew _ _))).mono fun e w' ⟨h1, h2⟩ => ⟨by rw [h1, decide_eq_true rfl], h2⟩
            have HTd := Hid.mk' (HTj.out.stay (below_drew _ _))
            have HUd := Hid.mk' (HUj.out.stay (below_drew _ _))
            clear hi2 hce hIB hUB u1 u2 u4 hic
            generalize u.bytes.length = ubl at *
            generalize u.id = x at *
            go_wp2
            go_region_held3 (fun W => W.cell? ⟨ub, uo + j * 5, none⟩ = some (.int .i64 x) ∧ W.cell? ⟨ub, uo + j * 5 + 3, none⟩ = some (.slice us.bo ubl us.bcap) ∧ W.cell? ⟨gc, x.toNat, none⟩ = some (.slice bo5 ubl bc5)) (go_keep) ((go_at_call 16; refine HSB.out.mono ?_; rintro e u9 ⟨rfl, hw9⟩; rw [hw9]; clear hw9))
            all_goals
              go_wp2
              go_roundw
              case rel => exact ⟨j + 1, by omega, by go_num, HTd.out, HUd.out⟩
              case measure => simp [intOf]; omega
          · obtain rfl : j = un := by omega
            have HE := Hid.mk' (HB1.out.trans (HTj.out.un.below.mono HB1.out.size))
            go_wp2
            go_ret
            exact ⟨rfl, HE.out⟩
end Go.Proofs.YtdclmpdjjkjfjaaGreatDoor
