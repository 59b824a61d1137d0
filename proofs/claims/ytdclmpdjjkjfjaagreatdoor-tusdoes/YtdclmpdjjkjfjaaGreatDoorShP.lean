/- The document's own answer, walked: Played. -/
import Derived.Test.YtdclmpdjjkjfjaaGreatDoorPk26
import Derived.Test.YtdclmpdjjkjfjaaGreatDoorRfHE
import Derived.Deep.RegionWith
namespace Go.Proofs.YtdclmpdjjkjfjaaGreatDoor
open Go.RowKit

theorem played_1' {s : Sp.St} {e : Jn.E} (h : e.kind = 1) : Sr.played s e = Sr.made s e.n (Sr.ofL e.text) := by unfold Sr.played; rw [if_pos h]
theorem played_7 {s : Sp.St} {e : Jn.E} (h1 : ¬ e.kind = 1) (h2 : ¬ e.kind = 2) (h3 : ¬ e.kind = 3) (h4 : ¬ e.kind = 4) (h5 : ¬ e.kind = 5) : Sr.played s e = Sp.ends s e.id := by unfold Sr.played; rw [if_neg h1, if_neg h2, if_neg h3, if_neg h4, if_neg h5]
set_option maxRecDepth 100000 in
set_option maxHeartbeats 3200000 in
theorem playedH_any (s : Sp.St) (S : Nat → Prop) (g : Nat) (x : Jn.E) (ta : Option Addr) (tn tc : Nat) (w : World) (h : HoldAt w S g s) (ok : Sp.Ok s) (hl : s.last ≤ 1000000) (hT : IsB w ta tc x.text) (hn : x.text.length = tn) (hN : tn ≤ 1000000) :
    Calls Tryz.prog 89 #[.pointer (some ⟨g, 0, none⟩), .agg #[.int .i64 x.kind, .int .i64 x.id, .int .i64 x.n, .slice ta tn tc]] w (Did S 50 w g (Sr.played s x)) := by
  have hbA := (Below.refl _ w).alloc (Nat.le_refl _) (.cells #[.int .i64 x.kind, .int .i64 x.id, .int .i64 x.n, .slice ta tn tc] 110)
  have h1 := h.stay hbA
  have hT1 := hT.stay hbA
  obtain ⟨⟨x0, x1, x2, x3⟩, _⟩ := row4 (heap_alloc_new w (.cells #[.int .i64 x.kind, .int .i64 x.id, .int .i64 x.n, .slice ta tn tc] 110))
  obtain ⟨W, hW⟩ : ∃ W, (w.alloc (.cells #[.int .i64 x.kind, .int .i64 x.id, .int .i64 x.n, .slice ta tn tc] 110)) = W := ⟨_, rfl⟩
  rw [hW] at hbA h1 hT1 x0 x1 x2 x3
  have hcv := hT1.str (P := Tryz.prog) 30 9 5 Tryz.underlying30 Tryz.underlying5 Tryz.underlying9
  rw [hn] at hcv
  have hms : (Sr.ofL x.text).size ≤ 1000000 := by rw [Sr.ofL_size]; omega
  have HB := Hid.mk' hbA
  by_cases k1 : x.kind = 1
  · have HC := Hid.mk' (createH_any s S g x.n (Sr.ofL x.text) W h1 ok hl hms)
    have HP := Hid.mk' (played_1' (s := s) k1)
    have HM : Hid (Sr.made s x.n (Sr.ofL x.text) = ((Sp.create s x.n (Sr.ofL x.text)).1, (Sp.create s x.n (Sr.ofL x.text)).2.2)) := rfl
    rw [show (⟨x.text.toArray⟩ : ByteArray) = Sr.ofL x.text from rfl] at hcv
    rw [k1] at x0 hW ⊢
    clear h ok hl hT hn hT1 h1 k1 hbA hms
    generalize Sp.create s x.n (Sr.ofL x.text) = q at *
    obtain ⟨q1, q2, q3⟩ := q
    generalize Sr.ofL x.text = m at *
    go_enter Tryz.func89, Tryz.ntmps89
    go_wp2_with fail
    refine HC.out.mono ?_
    intro e w2 hd
    have HR : Hid (Did S 50 w g (Sr.played s x) (.returned (.int .i64 (q3 : Int))) w2) := Did.from_ HB.out (by rw [HP.out, HM.out]; exact ⟨rfl, hd.at_, hd.turns⟩)
    obtain ⟨rfl, _, _⟩ := hd
    go_wp2
    go_ret
    exact HR.out
  by_cases k2 : x.kind = 2
  · have HP := Hid.mk' (played_2 (s := s) k2)
    have HAt := Hid.mk' (atH_any s S g x.id W h1 (by have := ok.few; omega))
    cases hp : Sp.place s.l x.id with
    | none =>
      rw [Sp.pl_none hp] at HAt
      have HR : Hid (Did S 50 w g (Sr.played s x) (.returned (.int .i64 (10 : Nat))) W) := by
        rw [HP.out]
        exact Did.none_ h HB.out (by rw [Sp.append_F, Sp.atUp_none hp])
      rw [k2] at x0 hW ⊢
      clear h ok hl hT hn hT1 h1 k1 k2 hbA hms hp hcv HP
      go_enter Tryz.func89, Tryz.ntmps89
      go_wp2_with fail
      refine HAt.out.mono ?_
      rintro e w2 ⟨rfl, hw⟩
      rw [hw]; clear hw
      go_wp2
      go_ret
      exact HR.out
    | some i =>
      have hi := Sp.place_lt hp
      rw [Sp.pl_some hp] at HAt
      have HC := Hid.mk' (appendH_any s S g x.id (Sr.lenOf s x.id) ta tn tc x.text W.drew (h1.stay (below_drew _ _)) ok (hT1.stay (below_drew _ _)) hn hN)
      have hL : Sr.lenOf s x.id = s.l[i].bytes.length := Sr.lenOf_some hp
      obtain ⟨gu, hgu⟩ := RowAt.of h1 hi
      obtain ⟨q, u0, u1, u2, u3, u4, _, _⟩ := RowAt.up h1 hgu hi
      obtain ⟨cap, hcap, hc⟩ := hgu
      have hi' : (i : Int) < s.l.length := by omega
      have hi0 : 0 ≤ (i : Int) := by omega
      rw [hL] at HC HP
      have HBd : Hid (Below w.heap.size w W.drew) := HB.out.trans (below_drew _ _)
      rw [k2] at x0 hW ⊢
      clear h ok hl hT hn hT1 h1 k1 k2 hbA hms hp hcv hL u0 u1 u2 u4
      generalize s.l[i] = u at *
      generalize Sp.append s x.id _ x.text = q2 at *
      generalize s.l.length = sl at *
      go_enter Tryz.func89, Tryz.ntmps89
      go_wp2_with fail
      refine HAt.out.mono ?_
      rintro e w2 ⟨rfl, hw⟩
      rw [hw]; clear hw
      go_wp2_with fail
      go_region_with (first | (go_at_call 94; refine HC.out.mono ?_; intro e w3 hd; have HR : Hid (Did S 50 w g (Sr.played s x) e w3) := (Did.from_ HBd.out (by rw [HP.out]; exact hd)); obtain ⟨rfl, _, _⟩ := hd))
      all_goals
        go_wp2
        go_ret
        exact HR.out
  by_cases k3 : x.kind = 3
  · have HC := Hid.mk' (declareH_any s S g x.id x.n W h1 ok)
    have HP := Hid.mk' (played_3 (s := s) k3)
    rw [k3] at x0 hW ⊢
    clear h ok hl hT hn hT1 h1 k1 k2 k3 hbA hms hcv
    generalize Sp.declare s x.id x.n = q at *
    go_enter Tryz.func89, Tryz.ntmps89
    go_wp2_with fail
    refine HC.out.mono ?_
    intro e w2 hd
    have HR : Hid (Did S 50 w g (Sr.played s x) e w2) := Did.from_ HB.out (by rw [HP.out]; exact hd)
    obtain ⟨rfl, _, _⟩ := hd
    go_wp2
    go_ret
    exact HR.out
  by_cases k4 : x.kind = 4
  · have HC := Hid.mk' (dropH_any s S g x.id W h1 ok)
    have HP := Hid.mk' (played_4 (s := s) k4)
    rw [k4] at x0 hW ⊢
    clear h ok hl hT hn hT1 h1 k1 k2 k3 k4 hbA hms hcv
    generalize Sp.drop s x.id = q at *
    go_enter Tryz.func89, Tryz.ntmps89
    go_wp2_with fail
    refine HC.out.mono ?_
    intro e w2 hd
    have HR : Hid (Did S 50 w g (Sr.played s x) e w2) := Did.from_ HB.out (by rw [HP.out]; exact hd)
    obtain ⟨rfl, _, _⟩ := hd
    go_wp2
    go_ret
    exact HR.out
  by_cases k5 : x.kind = 5
  · have HC := Hid.mk' (beginH_any s S g x.id W h1 ok)
    have HP := Hid.mk' (played_5 (s := s) k5)
    rw [k5] at x0 hW ⊢
    clear h ok hl hT hn hT1 h1 k1 k2 k3 k4 k5 hbA hms hcv
    generalize Sp.begins s x.id = q at *
    go_enter Tryz.func89, Tryz.ntmps89
    go_wp2_with fail
    refine HC.out.mono ?_
    intro e w2 hd
    have HR : Hid (Did S 50 w g (Sr.played s x) e w2) := Did.from_ HB.out (by rw [HP.out]; exact hd)
    obtain ⟨rfl, _, _⟩ := hd
    go_wp2
    go_ret
    exact HR.out
  · have HC := Hid.mk' (endH_any s S g x.id W h1 ok)
    have HP := Hid.mk' (played_7 (s := s) k1 k2 k3 k4 k5)
    clear h ok hl hT hn hT1 h1 hbA hms hcv
    generalize Sp.ends s x.id = q at *
    generalize x.kind = kd at *
    go_enter Tryz.func89, Tryz.ntmps89
    go_wp2_with fail
    refine HC.out.mono ?_
    intro e w2 hd
    have HR : Hid (Did S 50 w g (Sr.played s x) e w2) := Did.from_ HB.out (by rw [HP.out]; exact hd)
    obtain ⟨rfl, _, _⟩ := hd
    go_wp2
    go_ret
    exact HR.out
end Go.Proofs.YtdclmpdjjkjfjaaGreatDoor
