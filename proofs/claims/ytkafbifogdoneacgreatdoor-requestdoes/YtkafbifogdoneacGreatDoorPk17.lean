/- Small texts, one behind the other: RfChB, RfLen. -/
import Derived.Test.YtkafbifogdoneacGreatDoorRfChunks
import Derived.Test.YtkafbifogdoneacGreatDoorFlB
import Derived.Test.YtkafbifogdoneacGreatDoorPk13
import Derived.Test.YtkafbifogdoneacGreatDoorPk12
import Derived.Test.YtkafbifogdoneacGreatDoorPk11
import Derived.Deep.RegionHeld3
import Derived.Deep.DeepCutAuto
/- The document's own answer for a body in chunks, whatever the bytes. -/
namespace Go.Proofs.YtkafbifogdoneacGreatDoor
open Go.RowKit

theorem lineNone (ao : Option Addr) (c : Nat) (h : ao = none → c = 0) (W : World) :
    Calls Tryz.prog 40 #[.slice ao 0 c] W fun e w' => e = .returned (.tuple #[.string ⟨#[]⟩, .int .i64 0, .bool false, .int .i64 0]) ∧ w' = W :=
  lineOf_any [] ao c 0 W ⟨Nat.zero_le _, h, fun j hj => by cases hj⟩ rfl (by omega)

set_option maxRecDepth 100000 in
set_option maxHeartbeats 1600000 in
theorem chunksOf_none (ab : Option Addr) (cap : Nat) (w : World) (hb : IsB w ab cap []) :
    Calls Tryz.prog 44 #[.slice ab 0 cap] w fun e w' => ChOwn w [] e w' := by
  have hn := hb.2.1
  clear hb
  by_cases hc : cap = 0
  · subst hc
    go_enter Tryz.func44, Tryz.ntmps44
    go_wp2
    refine wp_loop_rounds 1 ?_
    rw [rounds_succ]
    go_wp2_with fail
    refine (lineNone _ _ (fun _ => rfl) _).mono ?_
    rintro e w1 ⟨rfl, hw⟩
    subst hw
    go_wp2
    (try simp only [Exit.inBlock, Exit.then])
    refine bodyPost_ret (results_tmp4 rfl _ _ _) rfl ?_
    exact ChOwn.of [] 0 false 0 none 0 0 _ rfl rfl rfl rfl (OwnB.nil _ _ _) (Below.refl _ _)
  · obtain ⟨a, rfl⟩ : ∃ a, ab = some a := by
      cases ab with
      | none => exact absurd (hn rfl) hc
      | some a => exact ⟨a, rfl⟩
    clear hn
    go_enter Tryz.func44, Tryz.ntmps44
    go_wp2
    refine wp_loop_rounds 1 ?_
    rw [rounds_succ]
    go_wp2_with fail
    refine (lineNone _ _ (fun e => by cases e) _).mono ?_
    rintro e w1 ⟨rfl, hw⟩
    subst hw
    go_wp2
    (try simp only [Exit.inBlock, Exit.then])
    refine bodyPost_ret (results_tmp4 rfl _ _ _) rfl ?_
    exact ChOwn.of [] 0 false 0 none 0 0 _ rfl rfl rfl rfl (OwnB.nil _ _ _) (Below.refl _ _)

theorem chunksOf_own (b : List UInt8) (ab : Option Addr) (cap : Nat) (w : World) (hb : IsB w ab cap b) (h9 : b.length ≤ 20000) :
    Calls Tryz.prog 44 #[.slice ab b.length cap] w fun e w' => ChOwn w b e w' := by
  by_cases h0 : 0 < b.length
  · obtain ⟨bb, oo, rfl, _⟩ := hb.lit h0
    exact chunksOf_some b bb oo cap w hb h9
  · obtain rfl : b = [] := List.eq_nil_of_length_eq_zero (by omega)
    exact chunksOf_none ab cap w hb
theorem chunksOf_any (b : List UInt8) (ab : Option Addr) (cap : Nat) (w : World) (hb : IsB w ab cap b) (h9 : b.length ≤ 20000) :
    Calls Tryz.prog 44 #[.slice ab b.length cap] w fun e w' => ChOut w b e w' := (chunksOf_own b ab cap w hb h9).mono (fun _ _ h => h.out)
end Go.Proofs.YtkafbifogdoneacGreatDoor

/- The document's own answer, walked: lengthOf. -/
namespace Go.Proofs.YtkafbifogdoneacGreatDoor
open Go.RowKit

/-- the box of the head, and behind it both lists of values -/
structure LnAt (w : World) (row : Obj) (vs cs : List ByteArray) (ao1 ao2 : Option Addr) (cap1 cap2 : Nat) (wr : World) : Prop where
  one : IsV wr ao1 cap1 vs.length (strV vs)
  two : IsV wr ao2 cap2 cs.length (strV cs)
  box : wr.heap[w.heap.size]? = some row
  below : Below w.heap.size w wr
theorem box_stay {w wr w' : World} {row : Obj} (h : wr.heap[w.heap.size]? = some row) (hb : Below wr.heap.size wr w') : w'.heap[w.heap.size]? = some row := (hb.block w.heap.size (Array.getElem?_eq_some_iff.1 h).1).trans h
theorem LnAt.stay {w : World} {row : Obj} {vs cs : List ByteArray} {ao1 ao2 : Option Addr} {cap1 cap2 : Nat} {wr w' : World} (h : LnAt w row vs cs ao1 ao2 cap1 cap2 wr) (hb : Below wr.heap.size wr w') : LnAt w row vs cs ao1 ao2 cap1 cap2 w' := ⟨h.one.stay hb, h.two.stay hb, box_stay h.box hb, then_ h.below hb⟩

set_option maxRecDepth 100000 in
set_option maxHeartbeats 4000000 in
theorem lengthOf_any (m t : ByteArray) (mi : Nat) (k0 : Int) (l : List (ByteArray × ByteArray)) (fo : Option Addr) (fcap : Nat) (w : World) (hl : IsV w fo fcap l.length (pairV l)) (hN : l.length ≤ 16) (hs : ∀ p ∈ l, p.1.size ≤ 2000 ∧ p.2.size ≤ 2000) :
    Calls Tryz.prog 43 #[.agg #[.string m, .string t, .int .i64 (mi : Int), .slice fo l.length fcap, .int .i64 k0]] w fun e w' => e = .returned (Rq.lenVal (Rq.len ⟨m.data.toList, t.data.toList, mi, Rq.flB l, k0⟩)) ∧ Below w.heap.size w w' := by
  have hle : Rq.len ⟨m.data.toList, t.data.toList, mi, Rq.flB l, k0⟩ = Rq.lenOf mi (Rq.lists (Fd.vals bHost l)) (Rq.lists (Fd.vals bSize l)) (Rq.lists (Fd.vals bCode l)) := by
    rw [Rq.len_eq]
    show Rq.lenOf mi (Rq.vals (Rq.flB l) bHost.data.toList) (Rq.vals (Rq.flB l) bSize.data.toList) (Rq.vals (Rq.flB l) bCode.data.toList) = _
    rw [Rq.vals_flB l bHost (by decide +kernel), Rq.vals_flB l bSize (by decide +kernel), Rq.vals_flB l bCode (by decide +kernel)]
    rfl
  rw [hle]
  have HB := Hid.mk' hl
  have HS1 : Hid (∀ p ∈ l, p.1.size ≤ 2000) := fun p hp => (hs p hp).1
  have HVz : Hid (∀ name, ∀ v ∈ Fd.vals name l, v.size ≤ 2000) := fun name v hv => by
    obtain ⟨p, hp, e⟩ := Fd.vals_mem hv
    rw [← e]; exact (hs p hp).2
  have hlH := Fd.vals_length bHost l; have hlS := Fd.vals_length bSize l; have hlC := Fd.vals_length bCode l
  clear hle hl hs
  have HOne : Hid (∀ W, Below w.heap.size w W → Calls Tryz.prog 81 #[.slice fo l.length fcap, .string ⟨#[104, 111, 115, 116]⟩] W fun e w' => e = .returned (txVal (Fd.one (Fd.vals bHost l))) ∧ Below W.heap.size W w') := fun W hW => oneOf_any l bHost fo fcap l.length W (HB.out.stay hW) rfl (by omega) HS1.out (by decide)
  have HV : Hid (∀ (name : ByteArray) (W : World), Below w.heap.size w W → name.size ≤ 2000 → Calls Tryz.prog 24 #[.slice fo l.length fcap, .string name] W fun e w' => ∃ ao' cap', e = .returned (.slice ao' (Fd.vals name l).length cap') ∧ IsV w' ao' cap' (Fd.vals name l).length (strV (Fd.vals name l)) ∧ Below W.heap.size W w') := fun name W hW hn => by
    refine (valuesOf_any l name fo fcap l.length W (HB.out.stay hW) rfl (by omega) HS1.out hn).mono ?_
    rintro e w' ⟨a, c, h1, h2, h3⟩
    exact ⟨a, c, h1, h2.isV, h3⟩
  have HZs := Hid.mk' (HVz.out bSize); have HZc := Hid.mk' (HVz.out bCode)
  clear HVz HS1 HB
  generalize Fd.vals bHost l = hv at *
  generalize hvs : Fd.vals bSize l = vs at *
  generalize hcs : Fd.vals bCode l = cs at *
  have HEs := Hid.mk' hvs; have HEc := Hid.mk' hcs
  clear hvs hcs
  generalize hrow : (Obj.cells #[Value.string m, Value.string t, .int .i64 (mi : Int), .slice fo l.length fcap, .int .i64 k0] 25 (0, 0)) = row
  have HRow := Hid.mk' hrow
  have hb0 : Below w.heap.size w (w.alloc row) := (Below.refl _ _).alloc (Nat.le_refl _) _
  have HX0 : Hid ((w.alloc row).heap[w.heap.size]? = some row) := heap_alloc_new w _
  have HB0 := Hid.mk' hb0
  rw [← hrow] at HX0 HB0
  clear hrow hb0
  go_enter Tryz.func43, Tryz.ntmps43
  go_wp2_with fail
  refine (HOne.out _ HB0.out).mono ?_
  rintro e w1 ⟨he, hb1⟩
  have HX1 := Hid.mk' (box_stay HX0.out hb1); have HB1 := Hid.mk' (then_ HB0.out hb1)
  have c2 : w1.cell? ⟨w.heap.size, 2, none⟩ = some (.int .i64 (mi : Int)) := cell_of_row w1 w.heap.size 2 _ _ _ HX1.out
  have c3 : w1.cell? ⟨w.heap.size, 3, none⟩ = some (.slice fo l.length fcap) := cell_of_row w1 w.heap.size 3 _ _ _ HX1.out
  clear hb1 HOne HX0 HB0
  unfold txVal at he
  subst he
  have hone : ((Fd.one hv).2 = 9 ∧ 1 < hv.length) ∨ ((Fd.one hv).2 = 10 ∧ hv.length = 0) ∨ ((Fd.one hv).2 = 0 ∧ hv.length = 1) := by
    match hv with
    | [] => exact Or.inr (Or.inl ⟨rfl, rfl⟩)
    | [v] => exact Or.inr (Or.inr ⟨rfl, rfl⟩)
    | v :: u :: r => exact Or.inl ⟨rfl, by simp⟩
  generalize (⟨(Fd.one hv).1.toArray⟩ : ByteArray) = hb at *
  generalize (Fd.one hv).2 = hc at *
  go_upto_region 2 with fail
  go_cut [28] (fun tt wd => tt = .bool (decide (1 < hv.length ∨ hv.length = 0 ∧ mi = 1)) ∧ wd = w1)
  case first =>
    rcases hone with ⟨rfl, h1⟩ | ⟨rfl, h1⟩ | ⟨rfl, h1⟩
    · have HD : Hid (decide (1 < hv.length ∨ hv.length = 0 ∧ mi = 1) = true) := decide_eq_true (Or.inl h1)
      clear h1
      go_wp2
      go_meet
      exact ⟨by rw [HD.out], rfl⟩
    · by_cases hm : mi = 1
      · have HD : Hid (decide (1 < hv.length ∨ hv.length = 0 ∧ mi = 1) = true) := decide_eq_true (Or.inr ⟨h1, hm⟩)
        have tm : ((mi : Int) == 1) = true := by rw [hm]; rfl
        clear h1 hm
        go_wp2
        go_meet
        exact ⟨by rw [HD.out], rfl⟩
      · have HD : Hid (decide (1 < hv.length ∨ hv.length = 0 ∧ mi = 1) = false) := decide_eq_false (by rintro (e | e); omega; exact hm e.2)
        have tm : ((mi : Int) == 1) = false := by rw [beq_eq_false_iff_ne]; omega
        clear h1 hm
        go_wp2
        go_meet
        exact ⟨by rw [HD.out], rfl⟩
    · have HD : Hid (decide (1 < hv.length ∨ hv.length = 0 ∧ mi = 1) = false) := decide_eq_false (by rintro (e | e) <;> omega)
      clear h1
      go_wp2
      go_meet
      exact ⟨by rw [HD.out], rfl⟩
  case rest =>
    obtain ⟨rfl, hw⟩ := hcut
    subst hw
    clear hone
    have HLo : Hid (Rq.lenOf mi (Rq.lists hv) (Rq.lists vs) (Rq.lists cs) = if 1 < hv.length ∨ hv.length = 0 ∧ mi = 1 then .inl 13 else if cs ≠ [] then (if vs ≠ [] ∨ mi = 0 then .inl 12 else if cs.length ≠ 1 ∨ Ch.lower ((Rq.lists cs).headD []) ≠ Rq.nChunked then .inl 11 else .inr (-1)) else match Rq.sizes ((Rq.lists vs).headD []) 0 (Rq.lists vs) with
        | .inl c => .inl c
        | .inr n => if 4000 < n then .inl 4 else .inr n) := by
      unfold Hid Rq.lenOf Rq.lists
      simp only [List.length_map, ne_eq, List.map_eq_nil_iff]
      rfl
    by_cases h13 : 1 < hv.length ∨ hv.length = 0 ∧ mi = 1
    · have hd : decide (1 < hv.length ∨ hv.length = 0 ∧ mi = 1) = true := decide_eq_true h13
      have HR : Hid (Rq.lenOf mi (Rq.lists hv) (Rq.lists vs) (Rq.lists cs) = .inl 13) := by have := HLo.out; rw [if_pos h13] at this; exact this
      rw [hd]
      clear HLo hd h13
      go_wp2
      go_ret2
      exact ⟨by rw [HR.out]; rfl, HB1.out⟩
    · have hd : decide (1 < hv.length ∨ hv.length = 0 ∧ mi = 1) = false := decide_eq_false h13
      have hl2 := HLo.out
      rw [if_neg h13] at hl2
      have HL2 := Hid.mk' hl2
      rw [hd]
      clear HLo hd h13 hl2
      go_upto_region 4 with fail
      go_cut [6, 7] (fun v6 v7 wd => ∃ ao1 cap1 ao2 cap2, v6 = .slice ao1 vs.length cap1 ∧ v7 = .slice ao2 cs.length cap2 ∧ LnAt w row vs cs ao1 ao2 cap1 cap2 wd)
      case first =>
        have hx0 := HX1.out
        rw [HRow.out] at hx0
        have hxd : wc.drew.heap[w.heap.size]? = some row := hx0
        have hbd : Below w.heap.size w wc.drew := HB1.out.trans (below_drew _ _)
        have hcell : ∀ W : World, W.heap[w.heap.size]? = some row → W.cell? ⟨w.heap.size, 3, none⟩ = some (.slice fo l.length fcap) := fun W hW => by
          rw [← HRow.out] at hW
          exact cell_of_row W w.heap.size 3 _ _ _ hW
        have HC := Hid.mk' hcell
        clear hcell hx0
        go_region_held3 (fun w' => w'.cell? ⟨w.heap.size, 3, none⟩ = some (.slice fo l.length fcap)) (go_keep) (first
          | (go_at_call 24; refine (HV.out _ _ (by assumption) (by decide)).mono ?_; rintro e w2 ⟨ao1, cap1, rfl, hIs, hbs⟩; have hxs := box_stay (by assumption) hbs; have hBs := then_ (w := w) (by assumption) hbs; have e3 := HC.out w2 hxs))
        rename_i w2' ao0 cap0 hI0 hb0 hx0 hB0 e0 z0
        go_wp2
        go_meet
        refine ⟨ao0, cap0, ao1, cap1, by rw [← HEs.out]; rfl, by rw [← HEc.out]; rfl, ⟨?_, ?_, hxs, hBs⟩⟩
        · rw [← HEs.out]; exact hI0.stay hbs
        · rw [← HEc.out]; exact hIs
      case rest =>
        obtain ⟨ao1, cap1, ao2, cap2, rfl, rfl, hL⟩ := hcut
        have HL := Hid.mk' hL
        clear hL c2 c3 HX1 HB1 HV HEs HEc
        have c2 : wc.cell? ⟨w.heap.size, 2, none⟩ = some (.int .i64 (mi : Int)) := by
          have := HL.out.box
          rw [← HRow.out] at this
          exact cell_of_row _ w.heap.size 2 _ _ _ this
        by_cases hc0 : cs = []
        · have hl3 := HL2.out
          rw [if_neg (fun e => e hc0)] at hl3
          generalize hnc : cs.length = nc
          have hcz : ¬ 0 < nc := by rw [← hnc, hc0]; simp
          have tc : decide ((nc : Int) > 0) = false := decide_eq_false (by omega)
          have HL3 := Hid.mk' hl3
          clear hl3 HL2 hc0 hnc
          go_wp2
          go_loopw [8, 9] (fun vn vi wr => ∃ (i : Nat) (n : Int), i ≤ vs.length ∧ vi = .int .i64 i ∧ vn = .int .i64 n ∧ 0 ≤ n ∧ n < 68719476736 ∧ Rq.sizes ((Rq.lists vs).headD []) 0 (Rq.lists vs) = Rq.sizes ((Rq.lists vs).headD []) n ((Rq.lists vs).drop i) ∧ LnAt w row vs cs ao1 ao2 cap1 cap2 wr) (fun _ vi _ => vs.length - (intOf vi).toNat)
          case atStart => exact ⟨0, 0, Nat.zero_le _, rfl, rfl, Int.le_refl _, by decide, rfl, HL.out⟩
          case round =>
            clear HL c2
            obtain ⟨i, n, hi, rfl, rfl, hn0, hn1, hsz, hR⟩ := hrel
            have HR := Hid.mk' hR; have HZ := Hid.mk' hsz
            clear hR hsz
            by_cases hlt : i < vs.length
            · obtain ⟨bb, oo, rfl, _⟩ := HR.out.one.lit (by rw [strV_length]; omega)
              have hlt' : (i : Int) < vs.length := by omega
              have hcv := HR.out.one.1
              have c0 : ∀ W, Below wr.heap.size wr W → W.cell? ⟨bb, oo, none⟩ = some (.string vs[0]) ∧ W.cell? ⟨bb, oo + i, none⟩ = some (.string vs[i]) := fun W hW => by
                have h0 := (HR.out.one.stay hW).cell (strV_at vs 0 (by omega))
                have hi := (HR.out.one.stay hW).cell (strV_at vs i hlt)
                rw [Addr.add_lit] at h0 hi
                exact ⟨by simpa using h0, hi⟩
              have HC := Hid.mk' c0
              have ci := (c0 wr (Below.refl _ _)).2
              have HNo := Hid.mk' (fun W => numberOf_any vs[i] W (by have := HZs.out vs[i] (List.getElem_mem hlt); unfold maxLen; omega))
              have hdr : (Rq.lists vs).drop i = vs[i].data.toList :: (Rq.lists vs).drop (i + 1) := by
                unfold Rq.lists
                rw [List.drop_eq_getElem_cons (by rw [List.length_map]; exact hlt), List.getElem_map]
              have hhd : (Rq.lists vs).headD [] = vs[0].data.toList := by
                unfold Rq.lists
                cases vs with
                | nil => simp at hlt
                | cons v r => rfl
              have hz := HZ.out
              rw [hdr, Rq.sizes] at hz
              rw [hhd] at hz
              have hnb : 0 ≤ (Ch.number 10 9 vs[i].data.toList).1 ∧ (Ch.number 10 9 vs[i].data.toList).1 < 68719476736 := by
                unfold Ch.number
                split
                · exact ⟨Int.le_refl _, by decide⟩
                · split
                  · rename_i h1 h2
                    have hl9 : ¬ (9 : Int) < vs[i].data.toList.length := fun e => h1 (Or.inr e)
                    exact Ch.numOf_bound 10 (by omega) (by omega) _ h2 (by omega)
                  · exact ⟨Int.le_refl _, by decide⟩
              have HHd := Hid.mk' hhd
              have HZ2 := Hid.mk' hz
              clear c0 hdr hz hhd HZ
              generalize vs[i] = x at *
              generalize vs[0] = y at *
              generalize (Ch.number 10 9 x.data.toList).1 = n2 at *
              generalize (Ch.number 10 9 x.data.toList).2 = ok at *
              have hn20 := hnb.1
              have hn21 := hnb.2
              clear hnb
              cases ok
              · have HRs : Hid (Rq.lenOf mi (Rq.lists hv) (Rq.lists vs) (Rq.lists cs) = .inl 7) := by
                  have := HL3.out
                  rw [HHd.out, HZ2.out, if_pos rfl] at this
                  exact this
                go_wp2_with fail
                refine (HNo.out _).mono ?_
                rintro e w2 ⟨rfl, hb2⟩
                have HB2 := Hid.mk' (then_ HR.out.below hb2)
                clear hb2
                go_wp2
                (try simp only [Exit.inBlock, Exit.then])
                go_ret2
                exact ⟨by rw [HRs.out]; rfl, HB2.out⟩
              · by_cases hxy : x.data.toList = y.data.toList
                · have txy : (x.toList == y.toList) = true := by rw [Lib.toList_data, Lib.toList_data, hxy]; exact beq_self_eq_true _
                  have HZ3 : Hid (Rq.sizes y.data.toList 0 (Rq.lists vs) = Rq.sizes y.data.toList n2 ((Rq.lists vs).drop (i + 1))) := by
                    have := HZ2.out
                    rw [if_neg (by simp), if_neg (fun e => e hxy)] at this
                    exact this
                  clear HZ2 hxy
                  go_wp2_with fail
                  refine (HNo.out _).mono ?_
                  rintro e w2 ⟨rfl, hb2⟩
                  have HB2 := Hid.mk' hb2
                  obtain ⟨d0, d1⟩ := HC.out _ hb2
                  clear hb2 ci
                  go_wp2
                  go_quiet (fail)
                  go_wp2
                  go_roundw
                  case rel => exact ⟨i + 1, n2, by omega, by go_num, rfl, hn20, hn21, by rw [HHd.out]; exact HZ3.out, (HR.out.stay HB2.out).stay (drewN_below ⟨_, rfl⟩)⟩
                  case measure => simp [intOf]; omega
                · have txy : (x.toList == y.toList) = false := by rw [beq_eq_false_iff_ne, Lib.toList_data, Lib.toList_data]; exact hxy
                  have HRs : Hid (Rq.lenOf mi (Rq.lists hv) (Rq.lists vs) (Rq.lists cs) = .inl 12) := by
                    have := HL3.out
                    rw [HHd.out, HZ2.out, if_neg (by simp), if_pos hxy] at this
                    exact this
                  clear HZ2 hxy
                  go_wp2_with fail
                  refine (HNo.out _).mono ?_
                  rintro e w2 ⟨rfl, hb2⟩
                  have HB2 := Hid.mk' (then_ HR.out.below hb2)
                  obtain ⟨d0, d1⟩ := HC.out _ hb2
                  clear hb2 ci
                  go_wp2
                  go_quiet (fail)
                  go_wp2
                  (try simp only [Exit.inBlock, Exit.then])
                  go_ret2
                  exact ⟨by rw [HRs.out]; rfl, then_ HB2.out (drewN_below ⟨_, rfl⟩)⟩
            · obtain rfl : i = vs.length := by omega
              have hz := HZ.out
              rw [List.drop_eq_nil_of_le (by unfold Rq.lists; rw [List.length_map]; exact Nat.le_refl _), Rq.sizes] at hz
              have hl4 := HL3.out
              rw [hz] at hl4
              simp only at hl4
              have HL4 := Hid.mk' hl4
              clear hz hl4 HL3 HZ
              by_cases h4 : 4000 < n
              · have t4 : decide (n > 4000) = true := decide_eq_true h4
                have HRs : Hid (Rq.lenOf mi (Rq.lists hv) (Rq.lists vs) (Rq.lists cs) = .inl 4) := by have := HL4.out; rw [if_pos h4] at this; exact this
                clear HL4 h4
                go_wp2
                (try simp only [Exit.inBlock, Exit.then])
                go_ret2
                exact ⟨by rw [HRs.out]; rfl, HR.out.below⟩
              · have t4 : decide (n > 4000) = false := decide_eq_false h4
                have HRs : Hid (Rq.lenOf mi (Rq.lists hv) (Rq.lists vs) (Rq.lists cs) = .inr n) := by have := HL4.out; rw [if_neg h4] at this; exact this
                clear HL4 h4
                go_wp2
                (try simp only [Exit.inBlock, Exit.then])
                go_ret2
                exact ⟨by rw [HRs.out]; rfl, HR.out.below⟩
        · have hcp : 0 < cs.length := List.length_pos_iff.2 hc0
          have tc : decide ((cs.length : Int) > 0) = true := decide_eq_true (by omega)
          have hl3 := HL2.out
          rw [if_pos hc0] at hl3
          clear HL2 hc0
          by_cases hv0 : vs = []
          · subst hv0
            by_cases hm0 : mi = 0
            · have tm : ((mi : Int) == 0) = true := by rw [hm0]; rfl
              rw [if_pos (Or.inr hm0)] at hl3
              have HRs := Hid.mk' hl3
              clear hl3 hm0
              go_wp2
              go_ret2
              exact ⟨by rw [HRs.out]; rfl, HL.out.below⟩
            · have tm : ((mi : Int) == 0) = false := by rw [beq_eq_false_iff_ne]; omega
              rw [if_neg (by rintro (e | e); exact e rfl; exact hm0 e)] at hl3
              clear hm0
              by_cases h1 : cs.length = 1
              · obtain ⟨c, rfl⟩ : ∃ c, cs = [c] := by
                  match cs, h1 with
                  | [c], _ => exact ⟨c, rfl⟩
                obtain ⟨bb, oo, rfl, hcs⟩ := HL.out.two.lit (by simp [strV])
                have ci : wc.cell? ⟨bb, oo, none⟩ = some (.string c) := hcs 0 _ rfl
                have hcp2 := HL.out.two.1
                have HSm := Hid.mk' (small_any c wc (HZc.out c (List.mem_singleton.2 rfl)))
                have hlo : (⟨(Ch.lower c.data.toList).toArray⟩ : ByteArray).toList = Ch.lower c.data.toList := by rw [Lib.toList_data]
                generalize hsm : (⟨(Ch.lower c.data.toList).toArray⟩ : ByteArray) = sm at *
                clear hcs hsm
                by_cases hch : Ch.lower c.data.toList = Rq.nChunked
                · have tch : (sm.toList == [99, 104, 117, 110, 107, 101, 100]) = true := by rw [hlo, hch]; rfl
                  rw [if_neg (by rintro (e | e); exact e rfl; exact e hch)] at hl3
                  have HRs := Hid.mk' hl3
                  clear hl3 hlo hch
                  go_wp2_with fail
                  refine HSm.out.mono ?_
                  rintro e w2 ⟨rfl, n2, hw⟩
                  subst hw
                  go_wp2
                  go_ret2
                  exact ⟨by rw [HRs.out]; rfl, then_ HL.out.below (drewN_below ⟨_, rfl⟩)⟩
                · have tch : (sm.toList == [99, 104, 117, 110, 107, 101, 100]) = false := by rw [beq_eq_false_iff_ne, hlo]; exact hch
                  rw [if_pos (Or.inr (show Ch.lower ((Rq.lists [c]).headD []) ≠ Rq.nChunked from hch))] at hl3
                  have HRs := Hid.mk' hl3
                  clear hl3 hlo hch
                  go_wp2_with fail
                  refine HSm.out.mono ?_
                  rintro e w2 ⟨rfl, n2, hw⟩
                  subst hw
                  go_wp2
                  go_ret2
                  exact ⟨by rw [HRs.out]; rfl, then_ HL.out.below (drewN_below ⟨_, rfl⟩)⟩
              · have t1 : ((cs.length : Int) != 1) = true := by rw [bne_iff_ne]; omega
                rw [if_pos (Or.inl h1)] at hl3
                have HRs := Hid.mk' hl3
                clear hl3 h1
                go_wp2
                go_ret2
                exact ⟨by rw [HRs.out]; rfl, HL.out.below⟩
          · have hvp : 0 < vs.length := List.length_pos_iff.2 hv0
            have tv : decide ((vs.length : Int) > 0) = true := decide_eq_true (by omega)
            rw [if_pos (Or.inl hv0)] at hl3
            have HRs := Hid.mk' hl3
            clear hl3 hv0
            go_wp2
            go_ret2
            exact ⟨by rw [HRs.out]; rfl, HL.out.below⟩
end Go.Proofs.YtkafbifogdoneacGreatDoor
