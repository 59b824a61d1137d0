/- Small texts, one behind the other: LwGreat, LwAsk, JrA, RfSame. -/
import Derived.Test.YtdclmpdjjkjfjaaGreatDoorBase
import Derived.Test.YtdclmpdjjkjfjaaGreatDoorPk3
import Derived.Test.YtdclmpdjjkjfjaaGreatDoorProg
import Derived.BigQuiet
import Derived.Test.YtdclmpdjjkjfjaaGreatDoorPk2
import Derived.Test.YtdclmpdjjkjfjaaGreatDoorPk4
import Derived.Test.YtdclmpdjjkjfjaaGreatDoorPk12
/- The statements' own: greatFields, walked: if it says no, all is small. -/
namespace Go.Proofs.YtdclmpdjjkjfjaaGreatDoor
open Go.RowKit

/-- fields that are few and small -/
def SmallF (l : List (ByteArray × ByteArray)) : Prop := l.length ≤ 100 ∧ ∀ p ∈ l, p.1.size + p.2.size ≤ 1000

set_option maxHeartbeats 800000 in
theorem greatFields_any (l : List (ByteArray × ByteArray)) (ao : Option Addr) (cap n : Nat) (w : World) (hl : IsV w ao cap n (pairV l)) (hn : l.length = n) (hz : ∀ p ∈ l, p.1.size + p.2.size ≤ maxLen) :
    Calls Tryz.prog 24 #[.slice ao n cap] w fun e w' => ∃ b : Bool, e = .returned (.bool b) ∧ (b = false → SmallF l) ∧ ∃ q, w' = w.drewN q := by
  subst hn
  by_cases h100 : 100 < l.length
  · go_enter Tryz.func24, Tryz.ntmps24
    go_wp2
    go_ret
    exact ⟨true, rfl, (fun h => by cases h), 0, rfl⟩
  · have t100 : decide ((l.length : Int) > 100) = false := by rw [decide_eq_false_iff_not]; omega
    have H := Hid.mk' hl
    have HZ := Hid.mk' hz
    clear hl hz
    go_enter Tryz.func24, Tryz.ntmps24
    go_wp2
    go_loopw [3] (fun t wr => ∃ k q : Nat, k ≤ l.length ∧ t = .int .i64 k ∧ wr = w.drewN q ∧ ∀ p ∈ l.take k, p.1.size + p.2.size ≤ 1000) (fun t _ => l.length - (intOf t).toNat)
    case atStart => exact ⟨0, 0, Nat.zero_le _, rfl, rfl, fun p hp => by simp at hp⟩
    case round =>
      obtain ⟨k, q, hk, rfl, rfl, hno⟩ := hrel
      have HN := Hid.mk' hno
      clear hno
      by_cases hlt : k < l.length
      · obtain ⟨bb, oo, rfl, hcs⟩ := H.out.lit (by rw [pairV_length]; omega)
        have hc0 := hcs _ _ (pairV_at l k hlt).1
        have hc1 := hcs _ _ (pairV_at l k hlt).2
        rw [← Nat.add_assoc] at hc1
        clear hcs
        have hlt' : (k : Int) < l.length := by omega
        have hz := HZ.out l[k] (List.getElem_mem hlt)
        have HT : Hid (l.take (k + 1) = l.take k ++ [l[k]]) := List.take_succ_eq_append_getElem hlt
        unfold maxLen at hz
        generalize l[k] = p at *
        have hw : IntKind.i64.wrap ((p.1.size : Int) + p.2.size) = (p.1.size : Int) + p.2.size := wrap_id (by omega) (by omega)
        by_cases hg : 1000 < p.1.size + p.2.size
        · have tg : decide ((p.1.size : Int) + p.2.size > 1000) = true := by rw [decide_eq_true_eq]; omega
          go_wp2
          go_quiet (fail)
          go_wp2
          go_ret
          exact ⟨true, rfl, (fun h => by cases h), q + nq, by simp⟩
        · have tg : decide ((p.1.size : Int) + p.2.size > 1000) = false := by rw [decide_eq_false_iff_not]; omega
          go_wp2
          go_quiet (fail)
          go_wp2
          go_roundw
          case rel =>
            refine ⟨k + 1, q + nq, by omega, by go_num, by simp, fun r hr => ?_⟩
            rw [HT.out, List.mem_append] at hr
            rcases hr with hr | hr
            · exact HN.out r hr
            · rw [List.mem_singleton] at hr; subst hr; omega
          case measure => simp [intOf]; omega
      · obtain rfl : k = l.length := by omega
        go_wp2
        go_ret
        exact ⟨false, rfl, fun _ => ⟨by omega, fun p hp => HN.out p (by rw [List.take_length]; exact hp)⟩, q, rfl⟩
end Go.Proofs.YtdclmpdjjkjfjaaGreatDoor

/- The statements' own: greatAsks, walked: if it says no, all is small. -/
namespace Go.Proofs.YtdclmpdjjkjfjaaGreatDoor
open Go.RowKit

/-- how much a request takes -/
def aqz (q : Aq) : Nat := q.body.length + q.t.size + q.m.size
def aqN (l : List Aq) : Nat := (l.map aqz).sum
theorem aqN_take (l : List Aq) (k : Nat) (h : k < l.length) : aqN (l.take (k + 1)) = aqN (l.take k) + aqz l[k] := by
  unfold aqN
  rw [List.take_succ_eq_append_getElem h, List.map_append, List.sum_append]
  simp
theorem aqN_mem (l : List Aq) (p : Aq) (h : p ∈ l) : aqz p ≤ aqN l := by
  induction l with
  | nil => cases h
  | cons q t ih =>
    unfold aqN
    rw [List.map_cons, List.sum_cons]
    rcases List.mem_cons.1 h with e | e
    · subst e; omega
    · have := ih e; unfold aqN at this; omega
/-- requests that are few and small -/
structure SmallA (l : List Aq) : Prop where
  few : l.length ≤ 100
  sum : aqN l ≤ 20000
  fields : ∀ q ∈ l, SmallF q.fl
/-- what greatAsks answers: if no, all is small -/
def GaOut (w : World) (l : List Aq) (e : Ending) (w' : World) : Prop := ∃ b : Bool, e = .returned (.bool b) ∧ (b = false → SmallA l) ∧ ∃ q, w' = w.drewN q
set_option maxHeartbeats 1600000 in
theorem greatAsks_any (l : List Aq) (ao : Option Addr) (cap n : Nat) (w : World) (hl : IsAqs w ao cap l) (hn : l.length = n) (hz : ∀ q ∈ l, aqz q ≤ 1125899906842624 ∧ ∀ p ∈ q.fl, p.1.size + p.2.size ≤ maxLen) (hN : n ≤ 140737488355328) :
    Calls Tryz.prog 7 #[.slice ao n cap] w fun e w' => GaOut w l e w' := by
  subst hn
  have H := Hid.mk' hl; have HZ := Hid.mk' hz
  have hcap := hl.cap_
  clear hl hz
  go_enter Tryz.func7, Tryz.ntmps7
  go_wp2
  go_loopw [3, 4] (fun vn vi wr => ∃ k q : Nat, k ≤ l.length ∧ k ≤ 200 ∧ vi = .int .i64 k ∧ vn = .int .i64 (aqN (l.take k) : Int) ∧ aqN (l.take k) ≤ k * 1125899906842624 ∧ (∀ x ∈ l.take k, SmallF x.fl) ∧ wr = w.drewN q) (fun _ vi _ => 200 - (intOf vi).toNat)
  case atStart => exact ⟨0, 0, Nat.zero_le _, Nat.zero_le _, rfl, rfl, by simp [aqN], fun x hx => by simp at hx, rfl⟩
  case round =>
    obtain ⟨k, q, hk, hk5, rfl, rfl, hsum, hall, rfl⟩ := hrel
    have HAl := Hid.mk' hall
    clear hall
    by_cases hlt : k < l.length
    · have hlt' : (k : Int) < l.length := by omega
      by_cases h200 : k < 200
      · have h50' : (k : Int) < 200 := by omega
        obtain ⟨b, o, st, rfl, hA⟩ := H.out.at_ k hlt
        obtain ⟨hps, hfz⟩ := HZ.out l[k] (List.getElem_mem hlt)
        have HS := Hid.mk' (aqN_take l k hlt)
        have HTk : Hid (l.take (k + 1) = l.take k ++ [l[k]]) := List.take_succ_eq_append_getElem hlt
        have HGf : Hid (∀ q, Calls Tryz.prog 24 #[.slice st.fo l[k].fl.length st.fcap] (w.drewN q) fun e w' => ∃ b : Bool, e = .returned (.bool b) ∧ (b = false → SmallF l[k].fl) ∧ ∃ n, w' = (w.drewN q).drewN n) := fun q => greatFields_any l[k].fl st.fo st.fcap _ _ (hA.fl.drewN q) rfl hfz
        have c0 := hA.c0; have c1 := hA.c1; have c3 := hA.c3; have c5 := hA.c5
        unfold aqz at hps HS
        clear hfz hA
        generalize l[k] = p at *
        generalize p.body.length = nb at *
        generalize aqN (l.take k) = S at *
        have w1 : IntKind.i64.wrap ((nb : Int) + p.t.size) = (nb : Int) + p.t.size := wrap_id (by omega) (by omega)
        have w2 : IntKind.i64.wrap ((nb : Int) + p.t.size + p.m.size) = (nb : Int) + p.t.size + p.m.size := wrap_id (by omega) (by omega)
        have w4 : IntKind.i64.wrap ((S : Int) + ((nb : Int) + p.t.size + p.m.size)) = (S : Int) + ((nb : Int) + p.t.size + p.m.size) := wrap_id (by omega) (by omega)
        go_wp2
        go_quiet (fail)
        go_wp2_with fail
        refine (HGf.out _).mono ?_
        rintro e w5 ⟨bb, rfl, hsm, q5, rfl⟩
        cases bb with
        | true =>
          go_wp2
          (try simp only [Exit.inBlock, Exit.then])
          go_ret
          exact ⟨true, rfl, (fun h => by cases h), q + nq + q5, rfl⟩
        | false =>
          have HSm := Hid.mk' (hsm rfl)
          clear hsm
          go_wp2
          go_roundw
          case rel =>
            refine ⟨k + 1, q + nq + q5, by omega, by omega, by go_num, by rw [HS.out]; go_num, by rw [HS.out]; omega, fun x hx => ?_, by simp⟩
            rw [HTk.out] at hx
            rcases List.mem_append.1 hx with hx | hx
            · exact HAl.out x hx
            · rw [List.mem_singleton.1 hx]; exact HSm.out
          case measure => simp [intOf]; omega
      · have h50' : ¬ (k : Int) < 200 := by omega
        have t1 : decide ((l.length : Int) > 100) = true := decide_eq_true (by omega)
        go_wp2
        go_ret
        exact ⟨true, rfl, (fun h => by cases h), q, rfl⟩
    · obtain rfl : k = l.length := by omega
      have htl : l.take l.length = l := List.take_length
      rw [htl] at HAl hsum ⊢
      by_cases h1 : 100 < l.length
      · have t1 : decide ((l.length : Int) > 100) = true := decide_eq_true (by omega)
        go_wp2
        go_ret
        exact ⟨true, rfl, (fun h => by cases h), q, rfl⟩
      · have t1 : decide ((l.length : Int) > 100) = false := decide_eq_false (by omega)
        by_cases h2 : 20000 < aqN l
        · have t2 : decide ((aqN l : Int) > 20000) = true := decide_eq_true (by omega)
          go_wp2
          go_ret
          exact ⟨true, rfl, (fun h => by cases h), q, rfl⟩
        · have t2 : decide ((aqN l : Int) > 20000) = false := decide_eq_false (by omega)
          have HR : Hid (SmallA l) := ⟨by omega, by omega, HAl.out⟩
          go_wp2
          go_ret
          exact ⟨false, rfl, fun _ => HR.out, q, rfl⟩
end Go.Proofs.YtdclmpdjjkjfjaaGreatDoor

/- Package journal, and the document's own answer, walked: a number's bytes. -/
namespace Go.Proofs.YtdclmpdjjkjfjaaGreatDoor
open Go.RowKit

/-- the wrap of a byte -/
theorem wrap_byte {x : Nat} (h : x < 256) : IntKind.u8.wrap (x : Int) = ((UInt8.ofNat x).toNat : Int) := by
  rw [IntKind.wrap_u8, Jn.toNat_of h]; omega
/-- what a loop over a number keeps -/
structure NmRel (w : World) (base : Nat) (p : List UInt8) (r : Nat) (ao : Option Addr) (cap k : Nat) (done : List UInt8) (wr : World) : Prop where
  own : OwnB wr base 5 ao cap p
  len : p.length = k
  below : Below base w wr
  all : p ++ Jn.num r = done
theorem NmRel.more {w : World} {base : Nat} {p : List UInt8} {r : Nat} {ao : Option Addr} {cap k : Nat} {done : List UInt8} {wr : World} (h : NmRel w base p r ao cap k done wr) (hb : base ≤ w.heap.size) (hr : ¬ r < 128) {c : UInt8} (hc : UInt8.ofNat (r % 128 + 128) = c) (o : Obj) (ao' : Option Addr) (cap' : Nat) (w' : World) (hO : OwnB w' base 5 ao' cap' (p ++ [c])) (hG : (wr.alloc o).grownBy w' (blockOf ao)) : NmRel w base (p ++ [c]) (r / 128) ao' cap' (k + 1) done w' := by
  have h1 := h.below.alloc (by have := h.below.size; omega) o
  refine ⟨hO, by rw [List.length_append, h.len]; rfl, h1.trans (grown_base (h.own.alloc o) hG (by have := h1.size; omega)), ?_⟩
  have := h.all
  rw [Jn.num_great hr, hc] at this
  rw [← this]; simp
set_option maxHeartbeats 1000000 in
theorem appendNumber_any (x : Nat) (hx : x ≤ 1000000000000) (base : Nat) (ao : Option Addr) (cap n : Nat) (l : List UInt8) (w : World) (hO : OwnB w base 5 ao cap l) (hn : l.length = n) (hN : n ≤ 1000000000) (hb : base ≤ w.heap.size) (v : Int) (hv : v + 1 = x) :
    Calls Tryz.prog 158 #[.slice ao n cap, .int .i64 v] w fun e w' => ∃ ao' cap', e = .returned (.slice ao' (n + (Jn.num x).length) cap') ∧ OwnB w' base 5 ao' cap' (l ++ Jn.num x) ∧ Below base w w' := by
  have H0 : Hid (NmRel w base l x ao cap n (l ++ Jn.num x) w) := ⟨hO, hn, Below.refl _ _, rfl⟩
  have HL : Hid (∀ k r p, p ++ Jn.num r = l ++ Jn.num x → p.length = k → k + (Jn.num r).length = n + (Jn.num x).length) := fun k r p e e2 => by
    have := congrArg List.length e
    rw [List.length_append, List.length_append, hn] at this; omega
  have hlx : (Jn.num x).length ≤ 6 := Jn.num_len 5 x (by omega)
  have hw : IntKind.i64.wrap (v + 1) = x := by rw [hv]; exact wrap_id (by omega) (by omega)
  obtain ⟨i0, hi0, hz0, hz1, hz2⟩ := info_parts info_u8
  have Hi := Hid.mk' hi0; have Hz0 := Hid.mk' hz0; have Hz1 := Hid.mk' hz1; have Hz2 := Hid.mk' hz2
  clear hO hn hi0 hz0 hz1 hz2 hv
  generalize hd : l ++ Jn.num x = done at *
  generalize hq : n + (Jn.num x).length = m at *
  clear hd
  have hm : m ≤ 1000000006 := by omega
  clear hq hlx
  go_enter Tryz.func158, Tryz.ntmps158
  go_wp2
  go_loopw [0, 5] (fun va vr wr => ∃ (r k : Nat) (p : List UInt8) (ao' : Option Addr) (ca : Nat), r ≤ x ∧ va = .slice ao' k ca ∧ vr = .int .i64 r ∧ NmRel w base p r ao' ca k done wr) (fun _ vr _ => (intOf vr).toNat)
  case atStart => exact ⟨x, n, l, ao, cap, Nat.le_refl _, rfl, by first | rfl | rw [hw], H0.out⟩
  case round =>
    obtain ⟨r, k, p, ao', ca, hr, rfl, rfl, hR⟩ := hrel
    have HR := Hid.mk' hR
    have hk := HL.out k r p hR.all hR.len
    have hpo := Jn.num_pos r
    have hkm : k ≤ 1000000006 := by omega
    clear hR hpo hk
    by_cases hlt : r < 128
    · have t0 : decide ((r : Int) ≥ 128) = false := by rw [decide_eq_false_iff_not]; omega
      have hwb := wrap_byte (x := r) (by omega)
      have HN := Hid.mk' (Jn.num_small hlt)
      generalize UInt8.ofNat r = c at *
      have hlt' : ¬ (128 : Int) ≤ r := by omega
      go_wp2_with (at_builtin; refine wpList_append_b rfl (.tmp 19) (.tmp 22) 30 rfl base 5 i0 Tryz.underlying30 Hi.out Hz0.out Hz1.out Hz2.out (l := p) (l2 := [c]) rfl HR.out.len (HR.out.own.alloc _) rfl rfl (IsB.one _ _ _ _) (by omega) (by rw [World.size_alloc]; have := HR.out.below.size; omega) ?_; intro ao3 cap3 w3 hO3 hG3; have HO3 := Hid.mk' hO3; have HG3 := Hid.mk' hG3; clear hO3 hG3)
      go_ret
      have h1 := HR.out.below.alloc (by have := HR.out.below.size; omega) (.cells #[.int .u8 (c.toNat : Int)] 5)
      have hal := HR.out.all
      have hl2 := HL.out k r p hal HR.out.len
      rw [HN.out] at hal hl2
      refine ⟨ao3, cap3, by rw [← hl2]; rfl, by rw [← hal]; exact HO3.out, h1.trans (grown_base (HR.out.own.alloc _) HG3.out (by have := h1.size; omega))⟩
    · have t0 : decide ((r : Int) ≥ 128) = true := by rw [decide_eq_true_eq]; omega
      have hwb := wrap_byte (x := r % 128 + 128) (by omega)
      have e1 : (((r % 128 + 128 : Nat)) : Int) = (r : Int) % 128 + 128 := by omega
      rw [e1] at hwb
      have HM := Hid.mk' (@NmRel.more w base p r ao' ca k done wr HR.out hb hlt _ rfl)
      generalize UInt8.ofNat (r % 128 + 128) = c at *
      have hlt' : (128 : Int) ≤ r := by omega
      have e2 : ((r / 128 : Nat) : Int) = (r : Int) / 128 := by omega
      clear e1
      go_wp2_with (at_builtin; refine wpList_append_b rfl (.tmp 10) (.tmp 15) 30 rfl base 5 i0 Tryz.underlying30 Hi.out Hz0.out Hz1.out Hz2.out (l := p) (l2 := [c]) rfl HR.out.len (HR.out.own.alloc _) rfl rfl (IsB.one _ _ _ _) (by omega) (by rw [World.size_alloc]; have := HR.out.below.size; omega) ?_; intro ao3 cap3 w3 hO3 hG3; have HO3 := Hid.mk' hO3; have HG3 := Hid.mk' hG3; clear hO3 hG3)
      go_roundw
      case rel => exact ⟨r / 128, k + 1, p ++ [c], ao3, cap3, by omega, rfl, by rw [e2], HM.out _ _ _ _ HO3.out HG3.out⟩
      case measure => simp [intOf]; omega
set_option maxHeartbeats 1000000 in
theorem seven_any (x : Nat) (hx : x ≤ 1000000000000) (w : World) (v : Int) (hv : v + 1 = x) :
    Calls Tryz.prog 124 #[.int .i64 v] w fun e w' => ∃ ao' cap', e = .returned (.slice ao' (Jn.num x).length cap') ∧ OwnB w' w.heap.size 5 ao' cap' (Jn.num x) ∧ Below w.heap.size w w' := by
  have hO := OwnB.nil w w.heap.size 5
  have H0 : Hid (NmRel w w.heap.size [] x none 0 0 (Jn.num x) w) := ⟨hO, rfl, Below.refl _ _, rfl⟩
  have HL : Hid (∀ k r p, p ++ Jn.num r = Jn.num x → p.length = k → k + (Jn.num r).length = (Jn.num x).length) := fun k r p e e2 => by
    have := congrArg List.length e
    rw [List.length_append] at this; omega
  have hlx : (Jn.num x).length ≤ 6 := Jn.num_len 5 x (by omega)
  have hw : IntKind.i64.wrap (v + 1) = x := by rw [hv]; exact wrap_id (by omega) (by omega)
  obtain ⟨i0, hi0, hz0, hz1, hz2⟩ := info_parts info_u8
  have Hi := Hid.mk' hi0; have Hz0 := Hid.mk' hz0; have Hz1 := Hid.mk' hz1; have Hz2 := Hid.mk' hz2
  clear hO hi0 hz0 hz1 hz2 hv
  
  generalize hd : Jn.num x = done at *
  clear hd
  generalize hq : done.length = m at *
  clear hq
  have hb : w.heap.size ≤ w.heap.size := Nat.le_refl _
  go_enter Tryz.func124, Tryz.ntmps124
  go_wp2
  go_loopw [3, 0] (fun va vr wr => ∃ (r k : Nat) (p : List UInt8) (ao' : Option Addr) (ca : Nat), r ≤ x ∧ va = .slice ao' k ca ∧ vr = .int .i64 r ∧ NmRel w w.heap.size p r ao' ca k done wr) (fun _ vr _ => (intOf vr).toNat)
  case atStart => exact ⟨x, 0, [], none, 0, Nat.le_refl _, rfl, by first | rfl | rw [hw], H0.out⟩
  case round =>
    obtain ⟨r, k, p, ao', ca, hr, rfl, rfl, hR⟩ := hrel
    have HR := Hid.mk' hR
    have hk := HL.out k r p hR.all hR.len
    have hpo := Jn.num_pos r
    have hkm : k ≤ 6 := by omega
    clear hR hpo hk
    by_cases hlt : r < 128
    · have t0 : decide ((r : Int) ≥ 128) = false := by rw [decide_eq_false_iff_not]; omega
      have hwb := wrap_byte (x := r) (by omega)
      have HN := Hid.mk' (Jn.num_small hlt)
      generalize UInt8.ofNat r = c at *
      have hlt' : ¬ (128 : Int) ≤ r := by omega
      go_wp2_with (at_builtin; refine wpList_append_b rfl (.tmp 17) (.tmp 20) 30 rfl w.heap.size 5 i0 Tryz.underlying30 Hi.out Hz0.out Hz1.out Hz2.out (l := p) (l2 := [c]) rfl HR.out.len (HR.out.own.alloc _) rfl rfl (IsB.one _ _ _ _) (by omega) (by rw [World.size_alloc]; have := HR.out.below.size; omega) ?_; intro ao3 cap3 w3 hO3 hG3; have HO3 := Hid.mk' hO3; have HG3 := Hid.mk' hG3; clear hO3 hG3)
      go_ret
      have h1 := HR.out.below.alloc (by have := HR.out.below.size; omega) (.cells #[.int .u8 (c.toNat : Int)] 5)
      have hal := HR.out.all
      have hl2 := HL.out k r p hal HR.out.len
      rw [HN.out] at hal hl2
      refine ⟨ao3, cap3, by rw [← hl2]; rfl, by rw [← hal]; exact HO3.out, h1.trans (grown_base (HR.out.own.alloc _) HG3.out (by have := h1.size; omega))⟩
    · have t0 : decide ((r : Int) ≥ 128) = true := by rw [decide_eq_true_eq]; omega
      have hwb := wrap_byte (x := r % 128 + 128) (by omega)
      have e1 : (((r % 128 + 128 : Nat)) : Int) = (r : Int) % 128 + 128 := by omega
      rw [e1] at hwb
      have HM := Hid.mk' (@NmRel.more w w.heap.size p r ao' ca k done wr HR.out hb hlt _ rfl)
      generalize UInt8.ofNat (r % 128 + 128) = c at *
      have hlt' : (128 : Int) ≤ r := by omega
      have e2 : ((r / 128 : Nat) : Int) = (r : Int) / 128 := by omega
      clear e1
      go_wp2_with (at_builtin; refine wpList_append_b rfl (.tmp 8) (.tmp 13) 30 rfl w.heap.size 5 i0 Tryz.underlying30 Hi.out Hz0.out Hz1.out Hz2.out (l := p) (l2 := [c]) rfl HR.out.len (HR.out.own.alloc _) rfl rfl (IsB.one _ _ _ _) (by omega) (by rw [World.size_alloc]; have := HR.out.below.size; omega) ?_; intro ao3 cap3 w3 hO3 hG3; have HO3 := Hid.mk' hO3; have HG3 := Hid.mk' hG3; clear hO3 hG3)
      go_roundw
      case rel => exact ⟨r / 128, k + 1, p ++ [c], ao3, cap3, by omega, rfl, by rw [e2], HM.out _ _ _ _ HO3.out HG3.out⟩
      case measure => simp [intOf]; omega
end Go.Proofs.YtdclmpdjjkjfjaaGreatDoor

/- The document's own answer, walked: SameBytes. -/
namespace Go.Proofs.YtdclmpdjjkjfjaaGreatDoor
open Go.RowKit

theorem same_lists (a b : List UInt8) : ((⟨a.toArray⟩ : ByteArray).toList == (⟨b.toArray⟩ : ByteArray).toList) = decide (a = b) := by
  rw [Lib.toList_data, Lib.toList_data, Bool.eq_iff_iff]; simp

theorem sameBytes_any (w : World) (ao1 ao2 : Option Addr) (cap1 cap2 n1 n2 : Nat) (l1 l2 : List UInt8) (hn1 : l1.length = n1) (hn2 : l2.length = n2) (h1 : IsB w ao1 cap1 l1) (h2 : IsB w ao2 cap2 l2) :
    Calls Tryz.prog 16 #[.slice ao1 n1 cap1, .slice ao2 n2 cap2] w fun e w' => e = .returned (.bool (decide (l1 = l2))) ∧ w' = w := by
  subst hn1; subst hn2
  have q1 := h1.str (P := Tryz.prog) 30 9 5 Tryz.underlying30 Tryz.underlying5 Tryz.underlying9
  have q2 := h2.str (P := Tryz.prog) 30 9 5 Tryz.underlying30 Tryz.underlying5 Tryz.underlying9
  have HS := Hid.mk' (same_lists l1 l2)
  generalize (⟨l1.toArray⟩ : ByteArray) = s1 at q1 HS
  generalize (⟨l2.toArray⟩ : ByteArray) = s2 at q2 HS
  clear h1 h2
  go_enter Tryz.func16, Tryz.ntmps16
  go_wp2
  go_ret
  exact ⟨ret_bool HS.out, rfl⟩
end Go.Proofs.YtdclmpdjjkjfjaaGreatDoor
