/- RequestLength, walked: a length is never two. -/
import Derived.Test.YtkbeaehjagdnnacGreatDoorRqBegun
import Derived.Test.YtkbeaehjagdnnacGreatDoorPk6
import Derived.Test.YtkbeaehjagdnnacGreatDoorPk17
import Derived.Test.YtkbeaehjagdnnacGreatDoorPk16
import Derived.Deep.RegionHeld3
import Derived.Deep.DeepCutAuto
namespace Go.Proofs.YtkbeaehjagdnnacGreatDoor
open Go.RowKit

/-- n bytes of a body came, and the next event is k -/
def Rq.NK (es : List Rq.Ev) (h : Rq.Hd) (n k : Nat) : Prop :=
  n ≤ 4000 ∧ (0 ≤ h.length → (n : Int) ≤ h.length) ∧ ∀ hk : k < es.length, es[k].d.kind = 3 → 0 ≤ h.length → (n : Int) = h.length
theorem Rq.nk_body {es : List Rq.Ev} {h : Rq.Hd} {j : Nat} (hF : Rq.Follow h (es.drop j)) (hi : j < es.length) (hk : es[j].d.kind = 2) : Rq.NK es h es[j].d.bytes.length (j + 1) := by
  rw [List.drop_eq_getElem_cons hi] at hF
  generalize es[j] = e at *
  cases e with
  | body b =>
    obtain ⟨h1, h2, h3⟩ := hF
    refine ⟨h1, h2, fun hk hf => h3 ?_⟩
    rw [List.head?_drop, List.getElem?_eq_getElem hk]
    generalize es[j + 1] = x at *
    cases x with
    | fin => rfl
    | head _ => cases hf
    | body _ => cases hf
    | fail _ => cases hf
  | head _ => cases hk
  | fin => cases hk
  | fail _ => cases hk
theorem Rq.nk_none {es : List Rq.Ev} {h : Rq.Hd} {j : Nat} (hF : Rq.Follow h (es.drop j)) : Rq.NK es h 0 j := by
  refine ⟨Nat.zero_le _, fun e => e, fun hi hk => ?_⟩
  rw [List.drop_eq_getElem_cons hi] at hF
  generalize es[j] = e at *
  cases e with
  | fin => exact fun g => (hF g).symm
  | head _ => cases hk
  | body _ => cases hk
  | fail _ => cases hk
/-- an event lies so -/
structure EvC (w : World) (b o : Nat) (e : EvD) (s : EvS) : Prop where
  c0 : w.cell? ⟨b, o, none⟩ = some (.int .i64 e.kind)
  c1 : w.cell? ⟨b, o + 1, none⟩ = some (.string e.method)
  c2 : w.cell? ⟨b, o + 2, none⟩ = some (.string e.target)
  c3 : w.cell? ⟨b, o + 3, none⟩ = some (.int .i64 e.minor)
  c4 : w.cell? ⟨b, o + 4, none⟩ = some (.slice s.fo e.fields.length s.fcap)
  c5 : w.cell? ⟨b, o + 5, none⟩ = some (.int .i64 e.length)
  c6 : w.cell? ⟨b, o + 6, none⟩ = some (.slice s.bo e.bytes.length s.bcap)
theorem IsEv.c {w : World} {b o : Nat} {e : EvD} {s : EvS} (h : IsEv w b o e s) : EvC w b o e s :=
  ⟨h.at_ 0 _ rfl, h.at_ 1 _ rfl, h.at_ 2 _ rfl, h.at_ 3 _ rfl, h.at_ 4 _ rfl, h.at_ 5 _ rfl, h.at_ 6 _ rfl⟩
/-- the box of a head, and behind it the values of its Content-Lengths -/
structure LbAt (w : World) (row : Obj) (vs : List ByteArray) (ao : Option Addr) (cap : Nat) (wr : World) : Prop where
  one : IsV wr ao cap vs.length (strV vs)
  box : wr.heap[w.heap.size]? = some row
  below : Below w.heap.size w wr
theorem lb_box {w wr w' : World} {row : Obj} (h : wr.heap[w.heap.size]? = some row) (hb : Below wr.heap.size wr w') : w'.heap[w.heap.size]? = some row := (hb.block w.heap.size (Array.getElem?_eq_some_iff.1 h).1).trans h
theorem LbAt.stay {w : World} {row : Obj} {vs : List ByteArray} {ao : Option Addr} {cap : Nat} {wr w' : World} (h : LbAt w row vs ao cap wr) (hb : Below wr.heap.size wr w') : LbAt w row vs ao cap w' := ⟨h.one.stay hb, lb_box h.box hb, then_ h.below hb⟩

theorem LbAt.c4 {w : World} {c0 c1 c2 c3 : Value} {n : Int} {t : Nat} {vs : List ByteArray} {ao : Option Addr} {cap : Nat} {wr : World} (h : LbAt w (.cells #[c0, c1, c2, c3, .int .i64 n] t (0, 0)) vs ao cap wr) : wr.cell? ⟨w.heap.size, 4, none⟩ = some (.int .i64 n) := cell_of_row wr w.heap.size 4 _ _ _ h.box
/-- a head that says one length, by the values as they lie -/
theorem lb_head {hd : Rq.Hd} (h : Rq.HeadOk hd) (hG : Rq.HGood hd) : ((Fd.vals bCode (Rq.flT hd.fields)).length = 0 ∨ (Fd.vals bCode (Rq.flT hd.fields)).length = 1 ∧ (Fd.vals bSize (Rq.flT hd.fields)).length = 0 ∧ hd.length = -1) ∧ hd.length ≤ 4000 ∧ (∀ v ∈ Fd.vals bSize (Rq.flT hd.fields), v.size ≤ 2000 ∧ Ch.number 10 9 v.data.toList = (hd.length, true)) ∧ (∀ p ∈ Rq.flT hd.fields, p.1.size ≤ 2000) := by
  have e1 : Rq.vals hd.fields Rq.nSize = (Fd.vals bSize (Rq.flT hd.fields)).map (fun x => x.data.toList) := by
    have := Rq.vals_flB (Rq.flT hd.fields) bSize (by decide +kernel)
    rw [Rq.flB_flT] at this; exact this
  have e2 : Rq.vals hd.fields Rq.nCode = (Fd.vals bCode (Rq.flT hd.fields)).map (fun x => x.data.toList) := by
    have := Rq.vals_flB (Rq.flT hd.fields) bCode (by decide +kernel)
    rw [Rq.flB_flT] at this; exact this
  obtain ⟨h1, h2, h3⟩ := h
  rw [e1, e2] at h1
  rw [e1] at h3
  have hz : ∀ p ∈ Rq.flT hd.fields, p.1.size ≤ 2000 ∧ p.2.size ≤ 2000 := fun p hp => by
    obtain ⟨f, hf, rfl⟩ := List.mem_map.1 hp
    have := hG.fields f hf
    exact ⟨by show f.1.toArray.size ≤ _; rw [List.size_toArray]; omega, by show f.2.toArray.size ≤ _; rw [List.size_toArray]; omega⟩
  refine ⟨?_, h2, fun v hv => ⟨?_, ?_⟩, fun p hp => (hz p hp).1⟩
  · by_cases hc : Fd.vals bCode (Rq.flT hd.fields) = []
    · exact Or.inl (by rw [hc]; rfl)
    · obtain ⟨a, b, c⟩ := h1 (by simpa using hc)
      rw [List.length_map] at c
      have hp : 0 < (Fd.vals bCode (Rq.flT hd.fields)).length := List.length_pos_iff.2 hc
      exact Or.inr ⟨by omega, by rw [List.map_eq_nil_iff] at a; rw [a]; rfl, b⟩
  · obtain ⟨p, hp, e⟩ := Fd.vals_mem hv
    rw [← e]; exact (hz p hp).2
  · have := h3 v.data.toList (List.mem_map.2 ⟨v, hv, rfl⟩)
    exact Prod.ext this.2 this.1

/-- Feed of all bytes at once -/
theorem feed_len (w w1 w2 : World) (g : Nat) (l : List UInt8) (bo : Option Addr) (bcap n : Nat) (hB : IsB w bo bcap l) (hn : l.length = n) (hl : n ≤ 20000) (h1 : Below w.heap.size w w1) (hR : ReqAt w2 (fun i => w1.heap.size ≤ i) g Rq.start) (h2 : Below w1.heap.size w1 w2) :
    Calls Tryz.prog 10 #[.pointer (some ⟨g, 0, none⟩), .slice bo n bcap] w2 fun e w' => ∃ ao cap, e = .returned (.slice ao (Rq.of l).1.length cap) ∧ IsEs w' ao cap ((Rq.of l).1.map Rq.Ev.d) ∧ Below w.heap.size w w' := by
  have hs1 := h1.size
  refine (feedReq_any w2 _ g Rq.start l bo bcap n hR Rq.Good.start (hB.stay (then_ h1 h2)) (fun hne a e => ?_) hn (by omega)).mono ?_
  · subst e
    have hp : 0 < l.length := by cases l with | nil => exact absurd rfl hne | cons _ _ => simp
    have := World.block_lt_of_cell? w _ (hB.cell 0 hp)
    rw [add_block] at this
    omega
  · rintro e w' ⟨ao, cap, m, S', So', he, hm, _, hO, _, _, _, hT⟩
    rw [(Rq.of_run l).ev] at hm hO
    subst hm
    exact ⟨ao, cap, he, hO.isEs, (then_ h1 h2).trans (hT.below (fun i e => by omega) (by have := h2.size; omega))⟩

set_option maxRecDepth 100000 in
set_option maxHeartbeats 8000000 in
theorem requestLength_any (w : World) (l : List UInt8) (bo : Option Addr) (bcap n : Nat) (hB : IsB w bo bcap l) (hn : l.length = n) :
    Calls Tryz.prog 6 #[.slice bo n bcap] w fun e w' => e = .returned (.bool true) ∧ Below w.heap.size w w' := by
  have HB := Hid.mk' hB
  clear hB
  go_enter Tryz.func6, Tryz.ntmps6
  go_wp2_with fail
  refine (requestBegun_any w).mono ?_
  rintro e w1 ⟨rfl, h1⟩
  have H1 := Hid.mk' h1
  clear h1
  by_cases hbig : 20000 < n
  · have t : decide ((n : Int) > 20000) = true := decide_eq_true (by omega)
    go_wp2
    go_ret
    exact ⟨rfl, H1.out⟩
  · have t : decide ((n : Int) > 20000) = false := decide_eq_false (by omega)
    have HF := Hid.mk' (fun g w2 => feed_len w w1 w2 g l bo bcap n HB.out hn (by omega) H1.out)
    have HOk := Hid.mk' (Rq.of_okay l)
    have HFi : Hid (∀ e ∈ (Rq.of l).1, e.Fine) := by
      have := Rq.fine_join _ (Rq.fine_outs l Rq.Good.start)
      rw [(Rq.of_run l).ev] at this
      exact this
    have hfew : (Rq.of l).1.length ≤ 40000 := by
      have := (Rq.fed_few Rq.start l).1
      rw [(Rq.of_run l).ev] at this
      omega
    generalize (Rq.of l).1 = es at *
    go_wp2_with fail
    refine (newReq_any w1).mono ?_
    rintro e w2 ⟨g, rfl, hR, hb2⟩
    have HF2 := Hid.mk' (HF.out g w2 hR hb2)
    clear hR hb2 HF H1 HB
    go_wp2_with fail
    refine HF2.out.mono ?_
    rintro e w3 ⟨ao, cap, rfl, hE, hb3⟩
    have HE := Hid.mk' hE; have HB3 := Hid.mk' hb3
    have hcap : es.length ≤ cap := by have := hE.1; rw [List.length_map] at this; exact this
    clear hE hb3 HF2 hbig t
    go_wp2
    go_loopw [4] (fun vi wr => ∃ i : Nat, i ≤ es.length ∧ vi = .int .i64 i ∧ Below w3.heap.size w3 wr) (fun vi _ => es.length - (intOf vi).toNat)
    case atStart => exact ⟨0, Nat.zero_le _, rfl, Below.refl _ _⟩
    case round =>
      obtain ⟨i, hi, rfl, hbr⟩ := hrel
      generalize wr = wo at *
      have HBr := Hid.mk' hbr
      clear hbr
      by_cases hlt : i < es.length
      · obtain ⟨b, o, rfl, hcs⟩ := HE.out.lit (by rw [List.length_map]; omega)
        have HC : Hid (∀ W, Below w3.heap.size w3 W → ∀ j (hj : j < es.length), ∃ s, IsEv W b (o + j * 12) es[j].d s) := fun W hW j hj => by
          obtain ⟨s, h⟩ := hcs j (by rw [List.length_map]; exact hj)
          rw [List.getElem_map] at h
          exact ⟨s, h.stay hW⟩
        clear hcs
        have hlt' : (i : Int) < es.length := by omega
        obtain ⟨s, hev⟩ := HC.out wo HBr.out i hlt
        by_cases hk : es[i].d.kind = 1
        · obtain ⟨hd, he⟩ : ∃ hd, es[i] = .head hd := by
            generalize es[i] = x at *
            cases x with
            | head hd => exact ⟨hd, rfl⟩
            | body _ => cases hk
            | fin => cases hk
            | fail _ => cases hk
          have hok := Rq.okay_at es HOk.out i hd (by rw [List.getElem?_eq_getElem hlt, he])
          have hgd : Rq.HGood hd := by have := HFi.out es[i] (List.getElem_mem hlt); rw [he] at this; exact this
          rw [he] at hev
          obtain ⟨c0, c1, c2, c3, c4, c5, c6⟩ := hev.c
          have hIf := hev.fields
          simp only [Rq.Ev.d] at c0 c1 c2 c3 c4 c5 hIf
          have HFo := Hid.mk' hok.2
          obtain ⟨hcd, hmost, hsz, hnm⟩ := lb_head hok.1 hgd
          have hlen : hd.fields.length = (Rq.flT hd.fields).length := (Rq.flT_length _).symm
          have hmany := hgd.many
          rw [hlen] at hmany
          have HV : Hid (∀ (name : ByteArray) (W : World), Below wo.heap.size wo W → name.size ≤ 2000 → Calls Tryz.prog 22 #[.slice s.fo (Rq.flT hd.fields).length s.fcap, .string name] W fun e w' => ∃ ao' cap', e = .returned (.slice ao' (Fd.vals name (Rq.flT hd.fields)).length cap') ∧ IsV w' ao' cap' (Fd.vals name (Rq.flT hd.fields)).length (strV (Fd.vals name (Rq.flT hd.fields))) ∧ Below W.heap.size W w') := fun name W hW hnn => by
            refine (valuesOf_any (Rq.flT hd.fields) name s.fo s.fcap (Rq.flT hd.fields).length W (hIf.stay hW) rfl (by omega) hnm hnn).mono ?_
            rintro e w' ⟨a, c, h1, h2, h3⟩
            exact ⟨a, c, h1, h2.isV, h3⟩
          have HSz := Hid.mk' hsz
          have hlS := Fd.vals_length bSize (Rq.flT hd.fields); have hlC := Fd.vals_length bCode (Rq.flT hd.fields)
          clear hIf hev hnm hgd hok hsz hk he c6 hlen
          generalize Rq.flT hd.fields = fl at *
          generalize hvs : Fd.vals bSize fl = vs at *
          generalize hcs : Fd.vals bCode fl = cs at *
          have HEs := Hid.mk' hvs; have HEc := Hid.mk' hcs
          clear hvs hcs
          generalize (⟨hd.method.toArray⟩ : ByteArray) = mm at *
          generalize (⟨hd.target.toArray⟩ : ByteArray) = tg at *
          generalize (hd.minor : Int) = mi at *
          generalize hln : hd.length = ln at *
          have HLn := Hid.mk' hln
          clear hln
          have hb0 : Below wo.heap.size wo (wo.alloc (.cells #[.string mm, .string tg, .int .i64 mi, .slice s.fo fl.length s.fcap, .int .i64 ln] 25)) := (Below.refl _ _).alloc (Nat.le_refl _) _
          have HX0 : Hid ((wo.alloc (.cells #[.string mm, .string tg, .int .i64 mi, .slice s.fo fl.length s.fcap, .int .i64 ln] 25)).heap[wo.heap.size]? = some (.cells #[.string mm, .string tg, .int .i64 mi, .slice s.fo fl.length s.fcap, .int .i64 ln] 25)) := heap_alloc_new wo _
          have HB0 := Hid.mk' hb0
          clear hb0
          go_upto_region 11 with fail
          go_cut [6, 7] from 21 to 148 (fun v6 v7 wd => ∃ ao1 cap1 ao2 cap2, v6 = .slice ao1 vs.length cap1 ∧ v7 = .slice ao2 cs.length cap2 ∧ LbAt wo (.cells #[.string mm, .string tg, .int .i64 mi, .slice s.fo fl.length s.fcap, .int .i64 ln] 25) vs ao1 cap1 wd)
          case first =>
            clear c0 c1 c2 c3 c4 c5
            have hxd : ((wo.alloc (.cells #[.string mm, .string tg, .int .i64 mi, .slice s.fo fl.length s.fcap, .int .i64 ln] 25)).drew).heap[wo.heap.size]? = some (.cells #[.string mm, .string tg, .int .i64 mi, .slice s.fo fl.length s.fcap, .int .i64 ln] 25) := HX0.out
            have hbd := HB0.out.trans (below_drew _ _)
            have hcell : ∀ W : World, W.heap[wo.heap.size]? = some (.cells #[.string mm, .string tg, .int .i64 mi, .slice s.fo fl.length s.fcap, .int .i64 ln] 25) → W.cell? ⟨wo.heap.size, 3, none⟩ = some (.slice s.fo fl.length s.fcap) := fun W hW => cell_of_row W wo.heap.size 3 _ _ _ hW
            have HC3 := Hid.mk' hcell
            clear hcell
            go_region_held3 (fun w' => w'.cell? ⟨wo.heap.size, 3, none⟩ = some (.slice s.fo fl.length s.fcap)) (go_keep) (first
              | (go_at_call 22; refine (HV.out _ _ (by assumption) (by decide)).mono ?_; rintro e w2 ⟨ao1, cap1, rfl, hIs, hbs⟩; have hxs := lb_box (by assumption) hbs; have hBs := then_ (w := wo) (by assumption) hbs; have e3 := HC3.out w2 hxs))
            rename_i w2' ao0 cap0 hI0 hb0 hx0 hB0 e0 z0
            go_wp2
            go_meet
            refine ⟨ao0, cap0, ao1, cap1, by rw [← HEs.out]; rfl, by rw [← HEc.out]; rfl, ⟨?_, hxs, hBs⟩⟩
            rw [← HEs.out]; exact hI0.stay hbs
          case rest =>
            obtain ⟨ao1, cap1, ao2, cap2, rfl, rfl, hL⟩ := hcut
            have HL := Hid.mk' hL
            clear hL HX0 HB0 HV HEs HEc c0 c1 c2 c3 c4 c5
            have t4 : decide (ln > 4000) = false := decide_eq_false (by omega)
            go_upto_region 12 with fail
            go_cut [6, 7, 66] from 21 to 148 (fun v6 _ t wd => v6 = .slice ao1 vs.length cap1 ∧ t = .bool false ∧ LbAt wo (.cells #[.string mm, .string tg, .int .i64 mi, .slice s.fo fl.length s.fcap, .int .i64 ln] 25) vs ao1 cap1 wd)
            case first =>
              have c4 := HL.out.c4
              rcases hcd with h0 | ⟨h1, h2, h3⟩
              · go_wp2
                go_meet
                exact ⟨rfl, rfl, HL.out⟩
              · have Hv0 := Hid.mk' h2
                clear t4
                go_wp2
                go_meet
                exact ⟨by rw [Hv0.out], rfl, HL.out⟩
            case rest =>
              clear HL
              obtain ⟨rfl, rfl, hL⟩ := hcut
              have HL := Hid.mk' hL
              clear hL hcd t4
              go_wp2
              go_loopw [8] (fun vk wq => ∃ k : Nat, k ≤ vs.length ∧ vk = .int .i64 k ∧ LbAt wo (.cells #[.string mm, .string tg, .int .i64 mi, .slice s.fo fl.length s.fcap, .int .i64 ln] 25) vs ao1 cap1 wq) (fun vk _ => vs.length - (intOf vk).toNat)
              case atStart => exact ⟨0, Nat.zero_le _, rfl, HL.out⟩
              case round =>
                clear HL
                obtain ⟨k, hkv, rfl, hL⟩ := hrel
                have HL := Hid.mk' hL
                clear hL
                by_cases hkl : k < vs.length
                · obtain ⟨bb, oo, rfl, _⟩ := HL.out.one.lit (by rw [strV_length]; omega)
                  have hkl' : (k : Int) < vs.length := by omega
                  have hcv := HL.out.one.1
                  have ck : wr.cell? ⟨bb, oo + k, none⟩ = some (.string vs[k]) := by
                    have := HL.out.one.cell (strV_at vs k hkl)
                    rw [Addr.add_lit] at this
                    exact this
                  have hv := HSz.out vs[k] (List.getElem_mem hkl)
                  have HNo : Hid (∀ W, Calls Tryz.prog 23 #[.string vs[k]] W fun e w' => e = .returned (.tuple #[.int .i64 ln, .bool true]) ∧ Below W.heap.size W w') := fun W => by
                    have := numberOf_any vs[k] W (by unfold maxLen; omega)
                    rw [hv.2] at this
                    exact this
                  clear hv
                  generalize vs[k] = v at *
                  go_wp2_with fail
                  refine (HNo.out _).mono ?_
                  rintro e wn ⟨rfl, hbn⟩
                  have HLn2 := Hid.mk' (HL.out.stay hbn)
                  have c4 := HLn2.out.c4
                  clear hbn HL HNo ck
                  go_wp2
                  go_roundw
                  case rel => exact ⟨k + 1, by omega, by go_num, HLn2.out⟩
                  case measure => simp [intOf]; omega
                · obtain rfl : k = vs.length := by omega
                  clear HSz hkv hkl hmany hlS hlC
                  go_upto_region 20 with fail
                  go_cut [11, 12] from 21 to 148 (fun vn vk wd => vn = .int .i64 0 ∧ vk = .int .i64 ((i + 1 : Nat) : Int) ∧ LbAt wo (.cells #[.string mm, .string tg, .int .i64 mi, .slice s.fo fl.length s.fcap, .int .i64 ln] 25) vs ao1 cap1 wd)
                  case first =>
                    go_wp2
                    go_meet
                    exact ⟨rfl, by go_num, HL.out⟩
                  case rest =>
                    clear HL
                    obtain ⟨rfl, rfl, hL⟩ := hcut
                    have HL := Hid.mk' hL
                    have HBc := Hid.mk' (then_ HBr.out hL.below)
                    clear hL
                    have hj0 : i + 1 ≤ es.length := by omega
                    generalize hj : i + 1 = j at *
                    have Hj := Hid.mk' hj
                    clear hj
                    go_upto_region 21 with fail
                    go_cut [102] from 21 to 148 (fun t wd => t = .bool (decide (∃ hi : j < es.length, es[j].d.kind = 2)) ∧ LbAt wo (.cells #[.string mm, .string tg, .int .i64 mi, .slice s.fo fl.length s.fcap, .int .i64 ln] 25) vs ao1 cap1 wd)
                    case first =>
                      by_cases hi1 : j < es.length
                      · obtain ⟨s1, hev1⟩ := HC.out _ HBc.out j hi1
                        have c0 := hev1.c.c0
                        have hi1' : (j : Int) < es.length := by omega
                        by_cases hk2 : es[j].d.kind = 2
                        · have HD : Hid (decide (∃ hi : j < es.length, es[j].d.kind = 2) = true) := decide_eq_true ⟨hi1, hk2⟩
                          rw [hk2] at c0
                          clear hev1 hk2
                          go_wp2
                          go_meet
                          exact ⟨by rw [HD.out], HL.out⟩
                        · have HD : Hid (decide (∃ hi : j < es.length, es[j].d.kind = 2) = false) := decide_eq_false (fun e => hk2 e.2)
                          have tk : (es[j].d.kind == 2) = false := by rw [beq_eq_false_iff_ne]; exact hk2
                          clear hev1 hk2
                          generalize es[j].d.kind = kd at c0 tk
                          go_wp2
                          go_meet
                          exact ⟨by rw [HD.out], HL.out⟩
                      · have HD : Hid (decide (∃ hi : j < es.length, es[j].d.kind = 2) = false) := decide_eq_false (fun e => hi1 e.1)
                        have hi1' : ¬ (j : Int) < es.length := by omega
                        go_wp2
                        go_meet
                        exact ⟨by rw [HD.out], HL.out⟩
                    case rest =>
                      clear HL HBc
                      obtain ⟨rfl, hL⟩ := hcut
                      have HL := Hid.mk' hL
                      have HBc := Hid.mk' (then_ HBr.out hL.below)
                      clear hL
                      go_upto_if 102 with fail
                      go_cut [11, 12] from 21 to 148 (fun vn vk wd => ∃ (nn kk : Nat), vn = .int .i64 nn ∧ vk = .int .i64 kk ∧ Rq.NK es hd nn kk ∧ kk ≤ es.length ∧ LbAt wo (.cells #[.string mm, .string tg, .int .i64 mi, .slice s.fo fl.length s.fcap, .int .i64 ln] 25) vs ao1 cap1 wd)
                      case first =>
                        by_cases hD : ∃ hi : j < es.length, es[j].d.kind = 2
                        · rw [decide_eq_true hD]
                          obtain ⟨hi1, hk2⟩ := hD
                          have HN := Hid.mk' (Rq.nk_body HFo.out hi1 hk2)
                          obtain ⟨s1, hev1⟩ := HC.out _ HBc.out j hi1
                          have c6 := hev1.c.c6
                          have hi1' : (j : Int) < es.length := by omega
                          clear hev1 hk2
                          generalize es[j].d.bytes = bs at *
                          go_wp2
                          go_meet
                          exact ⟨bs.length, j + 1, rfl, by go_num, HN.out, by omega, HL.out⟩
                        · rw [decide_eq_false hD]
                          clear hD
                          go_wp2
                          go_meet
                          exact ⟨0, j, rfl, rfl, Rq.nk_none HFo.out, by omega, HL.out⟩
                      case rest =>
                        clear HL HBc
                        obtain ⟨nn, kk, rfl, rfl, hNK, hkk, hL⟩ := hcut
                        have HL := Hid.mk' hL
                        have HBc := Hid.mk' (then_ HBr.out hL.below)
                        clear hL
                        go_upto_region 24 with fail
                        go_cut [148] from 21 to 148 (fun t wd => t = .bool false ∧ LbAt wo (.cells #[.string mm, .string tg, .int .i64 mi, .slice s.fo fl.length s.fcap, .int .i64 ln] 25) vs ao1 cap1 wd)
                        case first =>
                          obtain ⟨p1, p2, p3⟩ := hNK
                          rw [HLn.out] at p2 p3
                          have c4 := HL.out.c4
                          have t1 : decide ((nn : Int) > 4000) = false := decide_eq_false (by omega)
                          by_cases hl0 : 0 ≤ ln
                          · have q2 := p2 hl0
                            have t2 : decide (ln ≥ 0) = true := decide_eq_true hl0
                            have t3 : decide ((nn : Int) > ln) = false := decide_eq_false (by omega)
                            by_cases hk : kk < es.length
                            · obtain ⟨s2, hev2⟩ := HC.out _ HBc.out kk hk
                              have c0 := hev2.c.c0
                              have hk' : (kk : Int) < es.length := by omega
                              by_cases hk3 : es[kk].d.kind = 3
                              · have e := p3 hk hk3 hl0
                                have t4 : ((nn : Int) != ln) = false := by rw [e]; simp
                                rw [hk3] at c0
                                clear hev2 hk3 e p1 p2 p3 q2 hl0
                                go_wp2
                                go_meet
                                exact ⟨rfl, HL.out⟩
                              · have t4 : (es[kk].d.kind == 3) = false := by rw [beq_eq_false_iff_ne]; exact hk3
                                clear hev2 hk3 p1 p2 p3 q2 hl0
                                generalize es[kk].d.kind = kd at *
                                go_wp2
                                go_meet
                                exact ⟨rfl, HL.out⟩
                            · have hk' : ¬ (kk : Int) < es.length := by omega
                              clear p1 p2 p3 q2 hl0
                              go_wp2
                              go_meet
                              exact ⟨rfl, HL.out⟩
                          · have t2 : decide (ln ≥ 0) = false := decide_eq_false hl0
                            by_cases hk : kk < es.length
                            · obtain ⟨s2, hev2⟩ := HC.out _ HBc.out kk hk
                              have c0 := hev2.c.c0
                              have hk' : (kk : Int) < es.length := by omega
                              by_cases hk3 : es[kk].d.kind = 3
                              · rw [hk3] at c0
                                clear hev2 hk3 p1 p2 p3 hl0
                                go_wp2
                                go_meet
                                exact ⟨rfl, HL.out⟩
                              · have t4 : (es[kk].d.kind == 3) = false := by rw [beq_eq_false_iff_ne]; exact hk3
                                clear hev2 hk3 p1 p2 p3 hl0
                                generalize es[kk].d.kind = kd at *
                                go_wp2
                                go_meet
                                exact ⟨rfl, HL.out⟩
                            · have hk' : ¬ (kk : Int) < es.length := by omega
                              clear p1 p2 p3 hl0
                              go_wp2
                              go_meet
                              exact ⟨rfl, HL.out⟩
                        case rest =>
                          clear HL HBc
                          obtain ⟨rfl, hL⟩ := hcut
                          have HBc := Hid.mk' (then_ HBr.out hL.below)
                          clear hL hNK
                          go_wp2
                          go_roundw
                          case rel => exact ⟨i + 1, by omega, by go_num, HBc.out⟩
                          case measure => simp [intOf]; omega
        · have c0 := hev.c.c0
          have tk : (es[i].d.kind != 1) = true := by rw [bne_iff_ne]; exact hk
          generalize es[i].d.kind = kd at *
          clear hev hk
          go_wp2
          go_roundw
          case rel => exact ⟨i + 1, by omega, by go_num, HBr.out⟩
          case measure => simp [intOf]; omega
      · obtain rfl : i = es.length := by omega
        go_wp2
        go_ret
        exact ⟨rfl, then_ HB3.out HBr.out⟩
end Go.Proofs.YtkbeaehjagdnnacGreatDoor
