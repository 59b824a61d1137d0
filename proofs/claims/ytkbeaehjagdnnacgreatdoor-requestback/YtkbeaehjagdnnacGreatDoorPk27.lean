/- Small texts, one behind the other: RqBegun, RqLawP, RqJoinT. -/
import Derived.Test.YtkbeaehjagdnnacGreatDoorPk24
import Derived.Test.YtkbeaehjagdnnacGreatDoorPk26
import Derived.Test.YtkbeaehjagdnnacGreatDoorPk19
import Derived.Lib.SlBytesConst
import Derived.Test.YtkbeaehjagdnnacGreatDoorLwPiec
import Derived.Test.YtkbeaehjagdnnacGreatDoorRfSameE
import Derived.Test.YtkbeaehjagdnnacGreatDoorPk21
/- The laws' first look at package request, walked: requestBegun. -/
namespace Go.Proofs.YtkbeaehjagdnnacGreatDoor
open Go.RowKit

def begunB : List UInt8 := [71, 69, 84, 32, 47, 120, 32, 72, 84, 84, 80, 47, 49, 46, 49, 13, 10, 72, 111, 115, 116, 58, 32, 97, 13, 10, 13, 10]
def begunH : Rq.Hd := ⟨[71, 69, 84], [47, 120], 1, [([72, 111, 115, 116], [97])], 0⟩
theorem begun_outs : Rq.join (Rq.outs Rq.start begunB) = [.head begunH, .fin] := by rfl
theorem begun_busy : Rq.busy (Rq.fold Rq.start begunB) = false := by rfl
def begunT : List UInt8 := [71, 69, 84, 32, 47, 120, 32, 72, 84, 84, 80, 47, 49, 46, 49, 13, 10, 72, 111, 115, 116, 58, 32, 97, 13, 10, 67, 111, 110, 116, 101, 110, 116, 45, 76, 101, 110, 103, 116, 104, 58, 32, 49, 13, 10, 13, 10, 121]
theorem begun_text : Rq.text (Rq.hdT ⟨#[71, 69, 84]⟩ ⟨#[47, 120]⟩ [(⟨#[72, 111, 115, 116]⟩, ⟨#[97]⟩)]) [121] = (begunT, 0) := by rfl
theorem begun_fault : Rq.faultN (Ch.isToken (⟨#[71, 69, 84]⟩ : ByteArray).data.toList) (Rq.isTarget (⟨#[47, 120]⟩ : ByteArray).data.toList) ((⟨#[71, 69, 84]⟩ : ByteArray).data.toList.length + (⟨#[47, 120]⟩ : ByteArray).data.toList.length + 10) 1 1 (Fd.vals bSize [(⟨#[72, 111, 115, 116]⟩, ⟨#[97]⟩)]).length (Fd.vals bCode [(⟨#[72, 111, 115, 116]⟩, ⟨#[97]⟩)]).length (Fd.vals bHost [(⟨#[72, 111, 115, 116]⟩, ⟨#[97]⟩)]).length = 0 := by rfl
theorem itoa_one (W : World) : Calls Tryz.prog 38 #[.int .i64 1] W fun e w' => e = .returned (.string ⟨#[49]⟩) ∧ Below W.heap.size W w' := by
  have h := Any.strconv_Itoa_small { Tryz.lays171 with } 1 (by omega) W
  have e : Lib.decDigits 1 = [49] := by rw [Lib.decDigits, dif_pos (by omega)]; rfl
  rw [e] at h
  refine h.mono ?_
  rintro e w' ⟨he, hw⟩
  subst hw
  exact ⟨he, Below.refl _ _⟩
/-- the bytes as they lie -/
def begunO : Obj := .cells #[.int .u8 71, .int .u8 69, .int .u8 84, .int .u8 32, .int .u8 47, .int .u8 120, .int .u8 32, .int .u8 72, .int .u8 84, .int .u8 84, .int .u8 80, .int .u8 47, .int .u8 49, .int .u8 46, .int .u8 49, .int .u8 13, .int .u8 10, .int .u8 72, .int .u8 111, .int .u8 115, .int .u8 116, .int .u8 58, .int .u8 32, .int .u8 97, .int .u8 13, .int .u8 10, .int .u8 13, .int .u8 10] 5 (28, 29)
theorem begun_row (W : World) : IsB (W.alloc begunO) (some ⟨W.heap.size, 0, none⟩) 28 begunB := by
  have h := IsV.made W #[.int .u8 71, .int .u8 69, .int .u8 84, .int .u8 32, .int .u8 47, .int .u8 120, .int .u8 32, .int .u8 72, .int .u8 84, .int .u8 84, .int .u8 80, .int .u8 47, .int .u8 49, .int .u8 46, .int .u8 49, .int .u8 13, .int .u8 10, .int .u8 72, .int .u8 111, .int .u8 115, .int .u8 116, .int .u8 58, .int .u8 32, .int .u8 97, .int .u8 13, .int .u8 10, .int .u8 13, .int .u8 10] 28 5 (28, 29)
  refine ⟨Nat.le_refl _, (fun e => by cases e), fun j hj => ⟨_, rfl, ?_⟩⟩
  refine h.cell ?_
  exact byteV_at begunB j hj
/-- Feed of them -/
theorem feed_begun (w w1 : World) (g k : Nat) (hR : ReqAt w1 (fun i => w.heap.size ≤ i) g Rq.start) (hB : Below w.heap.size w w1) (hk : w1.heap.size = k) :
    Calls Tryz.prog 10 #[.pointer (some ⟨g, 0, none⟩), .slice (some ⟨k, 0, none⟩) 28 28] (w1.alloc (.cells #[.int .u8 71, .int .u8 69, .int .u8 84, .int .u8 32, .int .u8 47, .int .u8 120, .int .u8 32, .int .u8 72, .int .u8 84, .int .u8 84, .int .u8 80, .int .u8 47, .int .u8 49, .int .u8 46, .int .u8 49, .int .u8 13, .int .u8 10, .int .u8 72, .int .u8 111, .int .u8 115, .int .u8 116, .int .u8 58, .int .u8 32, .int .u8 97, .int .u8 13, .int .u8 10, .int .u8 13, .int .u8 10] 5 (28, 29))) fun e w' => ∃ b o cap, e = .returned (.slice (some ⟨b, o, none⟩) 2 cap) ∧ (w'.cell? ⟨b, o, none⟩ = some (.int .i64 1) ∧ w'.cell? ⟨b, o + 2, none⟩ = some (.string ⟨#[47, 120]⟩) ∧ w'.cell? ⟨b, o + 12, none⟩ = some (.int .i64 3)) ∧ (∃ S, ReqAt w' S g (Rq.fold Rq.start begunB)) ∧ Below w.heap.size w w' := by
  subst hk
  have b1 : Below w1.heap.size w1 (w1.alloc begunO) := (Below.refl _ _).alloc (Nat.le_refl _) _
  have hR2 := (hR.mono (S' := fun i => w.heap.size ≤ i ∧ i < w1.heap.size) (fun i hi e => ⟨e, hi⟩)).stay b1
  refine (feedReq_any (w1.alloc begunO) _ g Rq.start begunB _ 28 28 hR2 Rq.Good.start (begun_row w1) (fun _ a e => by injection e with e; subst e; exact fun x => absurd x.2 (Nat.lt_irrefl _)) rfl (by decide)).mono ?_
  rintro e w' ⟨ao, cap, n, S', So', he, hn, hR', hO, _, _, _, hT⟩
  have hsz := hB.size
  rw [begun_outs] at hn hO
  obtain ⟨b, o, rfl, hE⟩ := hO.isEs.lit (by decide)
  obtain ⟨s0, h0⟩ := hE 0 (by decide)
  obtain ⟨s1, h1⟩ := hE 1 (by decide)
  refine ⟨b, o, cap, by rw [he, hn]; rfl, ⟨by have := h0.at_ 0 _ rfl; exact this, by have := h0.at_ 2 _ rfl; exact this, by have := h1.at_ 0 _ rfl; exact this⟩, ⟨S', hR'⟩, (hB.trans (b1.mono hsz)).trans (hT.below (fun i e => e.1) (by rw [World.size_alloc]; omega))⟩
/-- Write of the one head with a body of one byte, just made -/
theorem write_begun (W : World) (k k' : Nat) (hk : W.heap.size = k) (hk' : k' = k + 1) :
    Calls Tryz.prog 15 #[.agg #[.string ⟨#[71, 69, 84]⟩, .string ⟨#[47, 120]⟩, .int .i64 0, .slice (some ⟨k, 0, none⟩) 1 1, .int .i64 0], .slice (some ⟨k', 0, none⟩) 1 1] ((W.alloc (.cells #[.string ⟨#[72, 111, 115, 116]⟩, .string ⟨#[97]⟩] 51)).alloc (.cells #[.int .u8 121] 5 (1, 2))) fun e w' => ∃ g cap, e = .returned (.tuple #[.slice (some ⟨g, 0, none⟩) 48 cap, .int .i64 0]) ∧ (convert 22 9 (.slice (some ⟨g, 0, none⟩) 48 cap)).run Tryz.prog w' = .ok (.string ⟨begunT.toArray⟩) w' ∧ Below W.heap.size W w' := by
  subst hk; subst hk'
  have b1 : Below W.heap.size W (W.alloc (.cells #[.string ⟨#[72, 111, 115, 116]⟩, .string ⟨#[97]⟩] 51)) := (Below.refl _ _).alloc (Nat.le_refl _) _
  have b2 := b1.alloc b1.size (.cells #[.int .u8 121] 5 (1, 2))
  have hV := (IsV.made W #[.string ⟨#[72, 111, 115, 116]⟩, .string ⟨#[97]⟩] 1 51 (0, 0)).alloc (.cells #[.int .u8 121] 5 (1, 2))
  have hI : IsB ((W.alloc (.cells #[.string ⟨#[72, 111, 115, 116]⟩, .string ⟨#[97]⟩] 51)).alloc (.cells #[.int .u8 121] 5 (1, 2))) (some ⟨W.heap.size + 1, 0, none⟩) 1 [121] := IsB.one_at _ 121 _ _ (World.size_alloc _ _)
  refine (write_fine _ ⟨#[71, 69, 84]⟩ ⟨#[47, 120]⟩ ⟨#[49]⟩ 0 0 [(⟨#[72, 111, 115, 116]⟩, ⟨#[97]⟩)] _ _ 1 1 1 1 [121] hV rfl (by decide) (by decide) (by decide) rfl hI (fun W' _ => itoa_one W') (by decide +kernel) begun_fault).mono ?_
  rintro e w' h
  cases h with
  | bad c hc he ht hB => rw [begun_text] at ht; injection ht with _ h2; exact absurd h2.symm hc
  | ok g cap n he hn ht hO hB =>
    rw [begun_text] at hn hO
    refine ⟨g, cap, by rw [he, hn]; rfl, hO.isB.str (P := Tryz.prog) 22 9 5 Tryz.underlying22 Tryz.underlying5 Tryz.underlying9, b2.trans (hB.mono b2.size)⟩

set_option maxRecDepth 100000 in
set_option maxHeartbeats 1600000 in
theorem requestBegun_any (w : World) :
    Calls Tryz.prog 7 #[] w fun e w' => e = .returned (.bool true) ∧ Below w.heap.size w w' := by
  have kc := fun (w : World) (C : Array Value) (n c : Nat) => Lib.run_convert_bytes_const (P := Tryz.prog) w 22 5 C n c Tryz.underlying22 Tryz.underlying5
  have kc2 : ∀ (w : World) (ob : Obj) (C : Array Value) (n c : Nat), (convert 22 22 (.slice (some ⟨w.heap.size + 1, 0, none⟩) n c)).run Tryz.prog ((w.alloc ob).alloc (.cells C 5)) = .ok (.slice (some ⟨w.heap.size + 1, 0, none⟩) n c) ((w.alloc ob).alloc (.cells C 5 (C.size, C.size + 1))) := fun w ob C n c => by
    have := kc (w.alloc ob) C n c
    rw [World.size_alloc] at this
    exact this
  go_enter Tryz.func7, Tryz.ntmps7
  go_wp2_with fail
  refine (newReq_any w).mono ?_
  rintro e w1 ⟨g, rfl, hR, hB⟩
  have HF := Hid.mk' (feed_begun w w1 g _ hR hB rfl)
  clear hR hB
  go_wp2_with fail
  refine HF.out.mono ?_
  rintro e w2 ⟨b, o, cap, rfl, hC, hR, hB⟩
  have HC := Hid.mk' hC; have HR := Hid.mk' hR; have HB := Hid.mk' hB
  have HW := Hid.mk' (write_begun w2 _ _ rfl rfl)
  clear hC hR hB HF
  go_wp2_with fail
  refine HW.out.mono ?_
  rintro e w3 ⟨q, cq, rfl, hs, hB3⟩
  obtain ⟨c1, c2, c3⟩ := HC.out
  have d1 : w3.cell? ⟨b, o, none⟩ = some (.int .i64 1) := (hB3.cell (World.block_lt_of_cell? w2 _ c1)).trans c1
  have d2 : w3.cell? ⟨b, o + 2, none⟩ = some (.string ⟨#[47, 120]⟩) := (hB3.cell (World.block_lt_of_cell? w2 _ c2)).trans c2
  have d3 : w3.cell? ⟨b, o + 12, none⟩ = some (.int .i64 3) := (hB3.cell (World.block_lt_of_cell? w2 _ c3)).trans c3
  obtain ⟨S, hR⟩ := HR.out
  have HBu := Hid.mk' (busy_any w3 S g _ (hR.stay hB3))
  rw [begun_busy] at HBu
  have HB3 := Hid.mk' (HB.out.trans (hB3.mono HB.out.size))
  have hT : (⟨begunT.toArray⟩ : ByteArray) = ⟨#[71, 69, 84, 32, 47, 120, 32, 72, 84, 84, 80, 47, 49, 46, 49, 13, 10, 72, 111, 115, 116, 58, 32, 97, 13, 10, 67, 111, 110, 116, 101, 110, 116, 45, 76, 101, 110, 103, 116, 104, 58, 32, 49, 13, 10, 13, 10, 121]⟩ := rfl
  rw [hT] at hs
  clear HR HC HW hR hB3 c1 c2 c3 hT HB
  go_wp2_with fail
  refine HBu.out.mono ?_
  rintro e w4 ⟨rfl, rfl⟩
  go_wp2
  go_ret
  exact ⟨rfl, HB3.out⟩
end Go.Proofs.YtkbeaehjagdnnacGreatDoor

/- RequestPieces, walked, by what Join comes to: how bytes fall does not matter. -/
namespace Go.Proofs.YtkbeaehjagdnnacGreatDoor
open Go.RowKit

theorem Rq.fed_len : ∀ (ps : List (List UInt8)) (s : Rq.St), (Rq.fed s ps).length ≤ 2 * ps.flatten.length
  | [], _ => by simp [Rq.fed]
  | q :: ps, s => by
    have h1 := (Rq.fed_few s q).1
    have h2 := Rq.fed_len ps (Rq.fold s q)
    show (Rq.join (Rq.outs s q) ++ Rq.fed (Rq.fold s q) ps).length ≤ _
    rw [List.length_append, List.flatten_cons, List.length_append]; omega
/-- what Join is to come to: of events that a parser told -/
def JoinTells : Prop := ∀ (W : World) (ao : Option Addr) (cap n : Nat) (es : List Rq.Ev), IsEs W ao cap (es.map Rq.Ev.d) → es.length = n → n ≤ 100000 → Rq.Full es → Rq.bsum es ≤ 100000 → (∀ e ∈ es, e.Fine) →
  Calls Tryz.prog 18 #[.slice ao n cap] W fun e w' => ∃ ao' cap', e = .returned (.slice ao' (Rq.join es).length cap') ∧ AllAt w' (fun k => W.heap.size ≤ k) 32 ao' cap' ((Rq.join es).map Rq.Ev.d) ∧ Below W.heap.size W w'
theorem Rq.fed_all : ∀ (ps : List (List UInt8)) (s : Rq.St), Rq.Good s → Rq.Full (Rq.fed s ps) ∧ Rq.bsum (Rq.fed s ps) ≤ ps.flatten.length ∧ ∀ e ∈ Rq.fed s ps, e.Fine
  | [], _, _ => ⟨fun x hx => (by cases hx), Nat.zero_le _, fun e he => (by cases he)⟩
  | q :: ps, s, hG => by
    obtain ⟨_, h1, h2, _⟩ := Rq.fed_few s q
    obtain ⟨i1, i2, i3⟩ := Rq.fed_all ps (Rq.fold s q) (Rq.Good.fold q hG)
    have hf := Rq.fine_join _ (Rq.fine_outs q hG)
    show Rq.Full (Rq.join (Rq.outs s q) ++ Rq.fed (Rq.fold s q) ps) ∧ _
    refine ⟨Rq.full_append h2 i1, ?_, fun e he => ?_⟩
    · show Rq.bsum (Rq.join (Rq.outs s q) ++ Rq.fed (Rq.fold s q) ps) ≤ _
      rw [Rq.bsum_append, List.flatten_cons, List.length_append]; omega
    · rcases List.mem_append.1 he with he | he
      · exact hf e he
      · exact i3 e he
/-- a piece in whatever world that keeps the row and the bytes -/
theorem PcRel.at_ {w : World} {bo : Option Addr} {l : List UInt8} {b o cap : Nat} {ps : List Pc} {w4 wr : World} {P : Nat → Prop} (h : PcRel w bo l l.length (some ⟨b, o, none⟩) cap ps w4) (hT : Turns P w4 wr) (hP : ∀ k, P k → k < w.heap.size) (i : Nat) (hi : i < ps.length) : wr.cell? ⟨b, o + i, none⟩ = some (.slice ps[i].ao ps[i].l.length ps[i].cap) := by
  have hv := h.own.isV.turns hT (fun a e => by
    have hb := (h.own.block a e).1
    intro k
    have := hP _ k
    omega)
  have hc := hv.cell (j := i) (u := ps[i].v) (by unfold pcV; rw [List.getElem?_map, List.getElem?_eq_getElem hi]; rfl)
  rw [Addr.add_lit] at hc
  exact hc
set_option maxRecDepth 100000 in
set_option maxHeartbeats 8000000 in
theorem requestPieces_any (hJ : JoinTells) (w : World) (l : List UInt8) (bo co : Option Addr) (bcap n ccap nc : Nat) (cs : List Int) (hB : IsB w bo bcap l) (hn : l.length = n) (hC : IsV w co ccap nc (cs.map fun c => Value.int .i64 c)) (hnc : cs.length = nc) :
    Calls Tryz.prog 4 #[.slice bo n bcap, .slice co nc ccap] w fun e w' => e = .returned (.bool true) ∧ Below w.heap.size w w' := by
  have HB := Hid.mk' hB; have HC := Hid.mk' hC; have HJ := Hid.mk' hJ; have HNc := Hid.mk' hnc; have HN := Hid.mk' hn
  clear hB hC hJ
  go_enter Tryz.func4, Tryz.ntmps4
  go_wp2_with fail
  refine (requestBegun_any w).mono ?_
  rintro e w1 ⟨rfl, h1⟩
  have H1 := Hid.mk' h1
  clear h1 hnc hn
  by_cases hbig : 20000 < n
  · have t : decide ((n : Int) > 20000) = true := decide_eq_true (by omega)
    go_wp2
    go_ret
    exact ⟨rfl, H1.out⟩
  · have t : decide ((n : Int) > 20000) = false := decide_eq_false (by omega)
    by_cases hbg2 : 100 < nc
    · have t2 : decide ((nc : Int) > 100) = true := decide_eq_true (by omega)
      go_wp2
      go_ret
      exact ⟨rfl, H1.out⟩
    · have t2 : decide ((nc : Int) > 100) = false := decide_eq_false (by omega)
      go_wp2_with fail
      refine (newReq_any w1).mono ?_
      rintro e w2 ⟨g, rfl, hR, hb2⟩
      have HR := Hid.mk' hR; have HB2 := Hid.mk' hb2
      clear hR hb2
      go_wp2_with fail
      refine (newReq_any w2).mono ?_
      rintro e w3 ⟨g2, rfl, hR2, hb3⟩
      have HR2 := Hid.mk' hR2; have HB3 := Hid.mk' hb3
      have HP := Hid.mk' (pieces_any w3 l bo co bcap n ccap nc cs (HB.out.stay (then_ H1.out (then_ HB2.out hb3))) HN.out (by omega) (HC.out.stay (then_ H1.out (then_ HB2.out hb3))) HNc.out (by omega))
      clear hR2 hb3 t t2
      go_wp2_with fail
      refine HP.out.mono ?_
      rintro e w4 ⟨ps, ao, cap, rfl, hP, hpl⟩
      have HPc := Hid.mk' hP; have HPl := Hid.mk' hpl
      have hp1 : ps.length ≤ 101 := by omega
      have hp0 : 0 < ps.length := by omega
      clear hP hpl HP
      have s1 := H1.out.size; have s2 := HB2.out.size; have s3 := HB3.out.size; have s4 := HPc.out.below.size
      have hRp := ((HR.out.mono (S' := fun k => w1.heap.size ≤ k ∧ k < w2.heap.size) (fun k hk e => ⟨e, hk⟩)).stay HB3.out).stay HPc.out.below
      have hRq := (HR2.out.mono (S' := fun k => w2.heap.size ≤ k ∧ k < w3.heap.size) (fun k hk e => ⟨e, hk⟩)).stay HPc.out.below
      have HG := Hid.mk' (GaAt.start hRp)
      have HRq := Hid.mk' hRq
      have HB4 := Hid.mk' (then_ H1.out (then_ HB2.out (then_ HB3.out HPc.out.below)))
      have Hs : Hid (w.heap.size ≤ w1.heap.size ∧ w1.heap.size ≤ w2.heap.size ∧ w2.heap.size ≤ w3.heap.size ∧ w3.heap.size ≤ w4.heap.size) := ⟨s1, s2, s3, s4⟩
      have HFl : Hid ((ps.map Pc.l).flatten = l) := by unfold Hid; rw [HPc.out.flat, List.take_length]
      have hll : l.length ≤ 20000 := by have := HN.out; omega
      have HLl := Hid.mk' hll
      clear hRp hRq s1 s2 s3 s4 HR HR2 hll
      obtain ⟨rb, ro, rfl, _⟩ := HPc.out.own.isV.lit (by rw [pcV_length]; exact hp0)
      have hcap := HPc.out.own.isV.1
      have HBig : Hid (∀ k, (Rq.fed Rq.start ((ps.map Pc.l).take k)).length ≤ 40000) := fun k => by
        have h1 := Rq.fed_len ((ps.map Pc.l).take k) Rq.start
        have h2 : ((ps.map Pc.l).take k).flatten.length ≤ l.length := by
          have := congrArg List.length (HFl.out)
          rw [← this]
          conv => rhs; rw [← List.take_append_drop k (ps.map Pc.l), List.flatten_append, List.length_append]
          omega
        have := HLl.out
        omega
      obtain ⟨i0, hi0, hz0, hz1, hz2⟩ := info_parts info_ev
      have Hi := Hid.mk' hi0; have Hz0 := Hid.mk' hz0; have Hz1 := Hid.mk' hz1; have Hz2 := Hid.mk' hz2
      clear hi0 hz0 hz1 hz2
      go_wp2
      go_loopw [7, 9] (fun va vi wr => ∃ (i m : Nat) (ao' : Option Addr) (cap' : Nat), i ≤ ps.length ∧ vi = .int .i64 i ∧ va = .slice ao' m cap' ∧ m = (Rq.fed Rq.start ((ps.map Pc.l).take i)).length ∧ GaAt w4 (fun k => w1.heap.size ≤ k ∧ k < w2.heap.size) g (Rq.fold Rq.start ((ps.map Pc.l).take i).flatten) (Rq.fed Rq.start ((ps.map Pc.l).take i)) ao' cap' wr) (fun _ vi _ => ps.length - (intOf vi).toNat)
      case atStart => exact ⟨0, 0, none, 0, Nat.zero_le _, rfl, rfl, rfl, HG.out⟩
      case round =>
        clear HG
        obtain ⟨i, m, ao', cap', hi, rfl, rfl, hm, hG⟩ := hrel
        have HG := Hid.mk' hG; have HM := Hid.mk' hm
        have hm4 : m ≤ 40000 := by have := HBig.out i; omega
        clear hG hm
        by_cases hlt : i < ps.length
        · have hlt' : (i : Int) < ps.length := by omega
          have ci := HPc.out.at_ HG.out.turns (fun k e => by have := Hs.out; omega) i hlt
          have HPi := Hid.mk' (HPc.out.all ps[i] (List.getElem_mem hlt))
          have HT : Hid ((ps.map Pc.l).take (i + 1) = (ps.map Pc.l).take i ++ [ps[i].l]) := by
            unfold Hid
            rw [List.take_succ_eq_append_getElem (by rw [List.length_map]; exact hlt), List.getElem_map]
          have hpl : ps[i].l.length ≤ 20000 := by
            have h2 := congrArg List.length HFl.out
            have h3 : ps[i].l.length ≤ (ps.map Pc.l).flatten.length := by
              conv => rhs; rw [← List.take_append_drop (i + 1) (ps.map Pc.l), HT.out, List.flatten_append, List.flatten_append, List.length_append, List.length_append]
              simp; omega
            have := HLl.out
            omega
          have HF := Hid.mk' (HG.out.feed (Rq.Good.fold _ Rq.Good.start) ps[i].l ps[i].ao ps[i].cap ps[i].l.length (HPi.out.is.stay HPc.out.below) (fun hne a e k => by
            obtain ⟨a0, e0, hb⟩ := HPi.out.blk hne a e
            have hlb : 0 < l.length := by
              rcases Nat.eq_zero_or_pos l.length with z | z
              · have h2 := congrArg List.length HFl.out
                have h3 : ps[i].l.length ≤ (ps.map Pc.l).flatten.length := by
                  conv => rhs; rw [← List.take_append_drop (i + 1) (ps.map Pc.l), HT.out, List.flatten_append, List.flatten_append, List.length_append, List.length_append]
                  simp; omega
                have h4 : 0 < ps[i].l.length := List.length_pos_iff.2 hne
                omega
              · exact z
            subst e0
            have := World.block_lt_of_cell? w _ (HB.out.cell 0 hlb)
            rw [add_block] at this
            have := Hs.out
            omega) rfl (by omega))
          have HBg := Hid.mk' (HBig.out (i + 1))
          rw [HT.out, Rq.fed_snoc, List.length_append] at HBg
          have hbg := HBg.out
          have HT2 : Hid (((ps.map Pc.l).take (i + 1)).flatten = ((ps.map Pc.l).take i).flatten ++ ps[i].l) := by unfold Hid; rw [HT.out, List.flatten_append]; simp
          have HT3 : Hid (Rq.fed Rq.start ((ps.map Pc.l).take (i + 1)) = Rq.fed Rq.start ((ps.map Pc.l).take i) ++ Rq.join (Rq.outs (Rq.fold Rq.start ((ps.map Pc.l).take i).flatten) ps[i].l)) := by unfold Hid; rw [HT.out, Rq.fed_snoc]
          clear HPi
          generalize ps[i] = p at *
          generalize hfs : Rq.join (Rq.outs (Rq.fold Rq.start ((ps.map Pc.l).take i).flatten) p.l) = fs at *
          generalize hfn : fs.length = fn at *
          have HFn := Hid.mk' hfn; have HFs := Hid.mk' hfs
          clear hfn hfs HG
          have hmf : m + fn ≤ 40000 := by have := HM.out; omega
          clear hbg HBg
          go_wp2_with fail
          refine HF.out.mono ?_
          rintro e w5 ⟨fo, fc, rfl, hFd⟩
          clear HF
          have HFd := Hid.mk' hFd
          clear hFd ci
          obtain ⟨xs, ys, hO1, hV2, hy, hy1, hMo⟩ := HFd.out.more
          rw [← HM.out] at hO1 hMo
          rw [HFn.out] at hV2 hy hMo
          have HO1 := Hid.mk' hO1; have HV2 := Hid.mk' hV2; have HY := Hid.mk' hy; have HY1 := Hid.mk' hy1; have HMo := Hid.mk' hMo
          clear hO1 hV2 hy hy1 hMo HFd
          go_wp2_with (at_builtin; go_loud (refine wpList_append_v rfl (.tmp 31) (.tmp 37) 26 rfl 0 32 i0 (.agg #[.int .i64 0, .string ⟨#[]⟩, .string ⟨#[]⟩, .int .i64 0, .slice none 0 0, .int .i64 0, .slice none 0 0, .string ⟨#[]⟩, .string ⟨#[]⟩, .string ⟨#[]⟩, .slice none 0 0, .int .i64 0]) 12 184 Tryz.underlying26 Hi.out Hz0.out Hz1.out Hz2.out rfl (by decide) rfl HO1.out rfl HV2.out HY.out HY1.out (by omega) (by omega) (Nat.zero_le _) ?_; intro ao3 cap3 w6 hO3 hG3 hat3; have HGn := Hid.mk' (HMo.out ao3 cap3 w6 hO3 hG3 hat3); clear hO3 hG3 hat3))
          go_roundw
          case rel => exact ⟨i + 1, m + fn, ao3, cap3, by omega, by go_num, by go_num, by rw [HT3.out, List.length_append, HFn.out, ← HM.out], by rw [HT2.out, HT3.out, Rq.fold_append]; exact HGn.out⟩
          case measure => simp [intOf]; omega
        · obtain rfl : i = ps.length := by omega
          have htk : (ps.map Pc.l).take ps.length = ps.map Pc.l := by rw [List.take_of_length_le]; rw [List.length_map]; omega
          rw [htk, HFl.out] at HG
          rw [htk] at HM
          have hfa := Rq.fed_all (ps.map Pc.l) Rq.start Rq.Good.start
          have hje := Rq.join_fed (ps.map Pc.l) Rq.start
          rw [HFl.out] at hfa hje
          have hll := HLl.out
          obtain ⟨S, So, hRp, hA, hd, hS, _⟩ := HG.out.two
          have HJn := Hid.mk' (HJ.out wr ao' cap' m (Rq.fed Rq.start (ps.map Pc.l)) hA.isEs HM.out.symm (by omega) hfa.1 (by omega) hfa.2.2)
          rw [hje] at HJn
          have HRp : Hid (ReqAt wr (fun k => S k ∧ k < wr.heap.size) g (Rq.fold Rq.start l)) := hRp.mono (fun k hk e => ⟨e, hk⟩)
          have HS := Hid.mk' hS
          have HRw : Hid (ReqAt wr (fun k => w2.heap.size ≤ k ∧ k < w3.heap.size) g2 Rq.start) := HRq.out.turns HG.out.turns (fun k a b => by omega)
          have hBw : Below w.heap.size w wr := HB4.out.trans (HG.out.turns.below (fun k e => by have := Hs.out; omega) (by have := Hs.out; omega))
          have HBw := Hid.mk' hBw
          have Hw4 : Hid (w4.heap.size ≤ wr.heap.size) := HG.out.turns.size
          have hEl : (Rq.join (Rq.outs Rq.start l)).length ≤ 40000 := by have := (Rq.fed_few Rq.start l).1; omega
          have HFin : Hid (∀ e ∈ (Rq.join (Rq.outs Rq.start l)).map Rq.Ev.d, e.fields.length ≤ 1000000) := fun e he => by
            obtain ⟨x, hx, rfl⟩ := List.mem_map.1 he
            have hf := Rq.fine_join _ (Rq.fine_outs l Rq.Good.start) x hx
            cases x with
            | head h => have := Rq.HGood.many hf; show (Rq.flT h.fields).length ≤ _; rw [Rq.flT_length]; omega
            | body _ => show (0 : Nat) ≤ _; omega
            | fin => show (0 : Nat) ≤ _; omega
            | fail _ => show (0 : Nat) ≤ _; omega
          have HLb : Hid (l ≠ [] → ∀ a, bo = some a → ¬ (w2.heap.size ≤ a.block ∧ a.block < w3.heap.size)) := fun hne a e k => by
            subst e
            have hp : 0 < l.length := List.length_pos_iff.2 hne
            have := World.block_lt_of_cell? w _ (HB.out.cell 0 hp)
            rw [add_block] at this
            have := Hs.out
            omega
          clear hfa hje hll hRp hA hd hS HG hBw HBig HPc HRq
          go_wp2_with fail
          refine HJn.out.mono ?_
          rintro e w5 ⟨ja, jc, rfl, hJa, hb5⟩
          have HJa := Hid.mk' hJa; have HB5 := Hid.mk' hb5
          have HF2 := Hid.mk' (feedReq_any w5 (fun k => w2.heap.size ≤ k ∧ k < w3.heap.size) g2 Rq.start l bo bcap n (HRw.out.stay hb5) Rq.Good.start (HB.out.stay (then_ HBw.out hb5)) HLb.out HN.out (by omega))
          clear hJa hb5 HJn HRw HLb
          go_wp2_with fail
          refine HF2.out.mono ?_
          rintro e w6 ⟨qa, qc, qn, S', So', he, hqn, hRq', hO, _, _, _, hT6⟩
          subst he; subst hqn
          have hsz := Hs.out; have hw4 := Hw4.out; have h5 := HB5.out.size
          have hJ6 := (HJa.out.turns hT6 (fun k a b => by omega)).isEs
          have hQ6 := hO.isEs
          have hP6 := (HRp.out.stay HB5.out).turns hT6 (fun k a b => by
            rcases HS.out k a.1 with c | c
            · omega
            · omega)
          have hB6 : Below w.heap.size w w6 := (then_ HBw.out HB5.out).trans (hT6.below (fun k e => by omega) (by omega))
          have HSm := Hid.mk' (sameEvents_yes ((Rq.join (Rq.outs Rq.start l)).map Rq.Ev.d) ja qa jc qc w6 hJ6 hQ6 (by rw [List.length_map]; omega) HFin.out)
          rw [List.length_map] at HSm
          have HP6 := Hid.mk' hP6; have HQ6 := Hid.mk' hRq'; have HB6 := Hid.mk' hB6
          clear hJ6 hQ6 hP6 hRq' hO hT6 hB6 hsz hw4 h5 HF2 HJa HFin
          generalize (Rq.join (Rq.outs Rq.start l)).length = en at *
          go_wp2_with fail
          refine HSm.out.mono ?_
          rintro e w7 ⟨rfl, hb7⟩
          have HP7 := Hid.mk' (HP6.out.stay hb7); have HQ7 := Hid.mk' (HQ6.out.stay hb7); have HB7 := Hid.mk' (then_ HB6.out hb7)
          clear hb7 HP6 HQ6 HB6 HSm
          have HU1 := Hid.mk' (busy_any w7 _ g _ HP7.out); have HU2 := Hid.mk' (busy_any w7 _ g2 _ HQ7.out)
          have HD1 := Hid.mk' (dead_any w7 _ g _ HP7.out); have HD2 := Hid.mk' (dead_any w7 _ g2 _ HQ7.out)
          generalize Rq.busy (Rq.fold Rq.start l) = bb at HU1 HU2
          generalize decide ((Rq.fold Rq.start l).ph = 4) = dd at HD1 HD2
          clear HP7 HQ7
          go_wp2_with fail
          refine HU1.out.mono ?_
          rintro e w8 ⟨rfl, hw⟩
          subst hw
          go_wp2_with fail
          refine HU2.out.mono ?_
          rintro e w9 ⟨rfl, hw⟩
          subst hw
          have tb : (bb == bb) = true := by cases bb <;> rfl
          have td : (dd == dd) = true := by cases dd <;> rfl
          go_wp2_with fail
          refine HD1.out.mono ?_
          rintro e w10 ⟨rfl, hw⟩
          subst hw
          go_wp2_with fail
          refine HD2.out.mono ?_
          rintro e w11 ⟨rfl, hw⟩
          subst hw
          go_wp2
          go_ret
          exact ⟨rfl, HB7.out⟩
end Go.Proofs.YtkbeaehjagdnnacGreatDoor

/- What Join comes to of events that a parser told. -/
namespace Go.Proofs.YtkbeaehjagdnnacGreatDoor
open Go.RowKit

theorem small_d {e : Rq.Ev} (h : e.Fine) (hb : e.d.bytes.length ≤ 100000) : e.d.Small := by
  cases e with
  | head hd =>
    have h : Rq.HGood hd := h
    have hl : (Rq.flT hd.fields).length = hd.fields.length := Rq.flT_length hd.fields
    refine ⟨?_, ?_, fun q hq => ?_, ?_, Nat.zero_le _, Nat.zero_le _, Nat.zero_le _, Nat.zero_le _, Nat.zero_le _⟩
    · show hd.method.toArray.size ≤ _; rw [List.size_toArray]; have := h.method; omega
    · show hd.target.toArray.size ≤ _; rw [List.size_toArray]; have := h.target; omega
    · have hq : q ∈ Rq.flT hd.fields := hq
      unfold Rq.flT at hq
      obtain ⟨f, hf, rfl⟩ := List.mem_map.1 hq
      have := h.fields f hf
      refine ⟨?_, ?_⟩
      · show f.1.toArray.size ≤ _; rw [List.size_toArray]; omega
      · show f.2.toArray.size ≤ _; rw [List.size_toArray]; omega
    · show (Rq.flT hd.fields).length * 32 ≤ _; rw [hl]; have := h.many; omega
  | body b =>
    have hb : b.length ≤ 100000 := hb
    exact ⟨Nat.zero_le _, Nat.zero_le _, (fun q hq => by cases hq), Nat.zero_le _, (by show b.length ≤ _; omega), Nat.zero_le _, Nat.zero_le _, Nat.zero_le _, Nat.zero_le _⟩
  | fin => exact ⟨Nat.zero_le _, Nat.zero_le _, (fun q hq => by cases hq), Nat.zero_le _, Nat.zero_le _, Nat.zero_le _, Nat.zero_le _, Nat.zero_le _, Nat.zero_le _⟩
  | fail c => exact ⟨Nat.zero_le _, Nat.zero_le _, (fun q hq => by cases hq), Nat.zero_le _, Nat.zero_le _, Nat.zero_le _, Nat.zero_le _, Nat.zero_le _, Nat.zero_le _⟩
theorem joinTells : JoinTells := by
  intro W ao cap n es hE hn hl hf hz hF
  refine (joinAny W ao cap n (es.map Rq.Ev.d) hE (by rw [List.length_map]; exact hn) (by omega) (fun e he => ?_) (by rw [sumD_d]; omega)).mono ?_
  · obtain ⟨x, hx, rfl⟩ := List.mem_map.1 he
    refine small_d (hF x hx) ?_
    have h1 := sumD_mem (es.map Rq.Ev.d) x.d (List.mem_map.2 ⟨x, hx, rfl⟩)
    rw [sumD_d] at h1
    omega
  · rintro e w' ⟨ao', cap', m, he, hm, hO, hB⟩
    rw [joinD_d] at hm hO
    rw [List.length_map] at hm
    subst hm
    exact ⟨ao', cap', he, hO.all, hB⟩
theorem requestPieces_all (w : World) (l : List UInt8) (bo co : Option Addr) (bcap n ccap nc : Nat) (cs : List Int) (hB : IsB w bo bcap l) (hn : l.length = n) (hC : IsV w co ccap nc (cs.map fun c => Value.int .i64 c)) (hnc : cs.length = nc) :
    Calls Tryz.prog 4 #[.slice bo n bcap, .slice co nc ccap] w fun e w' => e = .returned (.bool true) ∧ Below w.heap.size w w' := requestPieces_any joinTells w l bo co bcap n ccap nc cs hB hn hC hnc
end Go.Proofs.YtkbeaehjagdnnacGreatDoor
