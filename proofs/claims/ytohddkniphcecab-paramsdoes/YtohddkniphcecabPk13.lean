/- Small texts, one behind the other: MemF, PmTxB, PlainS, RfFind. -/
import Derived.Test.YtohddkniphcecabPk2
import Derived.Test.YtohddkniphcecabPk1
import Derived.Deep.AppendSrc
import Derived.Laws.IdiomCopy
import Derived.Test.YtohddkniphcecabPk4
import Derived.Test.YtohddkniphcecabPk11
import Derived.Below
import Derived.Test.YtohddkniphcecabProg
/- Bytes in memory that a conversion made, or an append: what append makes of them; of whatever program. -/
namespace Go.Proofs.Ytohddkniphcecab
open Go.RowKit

/-- bytes that lie at the head of block g, from number base on, of the call's own: behind them there is room to cap -/
structure Buf (w : World) (base g cap : Nat) (l : List UInt8) : Prop where
  base_ : base ≤ g
  lt : g < w.heap.size
  le : l.length ≤ cap
  max : cap ≤ maxLen
  holds : ∀ j u, (byteV l)[j]? = some u → w.cell? ⟨g, j, none⟩ = some u
  there : ∀ j, j < cap → (w.cell? ⟨g, j, none⟩).isSome = true ∧ w.frozen? ⟨g, j, none⟩ = false
section
variable {w w' : World} {base g cap : Nat} {l : List UInt8}
theorem Buf.of_block (h : Buf w base g cap l) (hb : w'.heap[g]? = w.heap[g]?) : Buf w' base g cap l := by
  have hlt : g < w'.heap.size := by
    have : (w'.heap[g]?).isSome = true := by rw [hb, Array.getElem?_eq_getElem h.lt]; rfl
    rcases Nat.lt_or_ge g w'.heap.size with e | e
    · exact e
    · rw [Array.getElem?_eq_none e] at this; cases this
  exact ⟨h.base_, hlt, h.le, h.max, fun j u hj => by rw [World.cell?_of_block (a := ⟨g, j, none⟩) hb]; exact h.holds j u hj, fun j hj => by rw [World.cell?_of_block (a := ⟨g, j, none⟩) hb, World.frozen?_of_block (a := ⟨g, j, none⟩) hb]; exact h.there j hj⟩
theorem Buf.turns {S : Nat → Prop} (h : Buf w base g cap l) (ht : Turns S w w') (hn : ¬ S g) : Buf w' base g cap l := h.of_block (ht.block g h.lt hn)
theorem Buf.keep (h : Buf w base g cap l) (hb : Below w.heap.size w w') : Buf w' base g cap l := h.of_block (hb.block g h.lt)
theorem Buf.alloc (h : Buf w base g cap l) (o : Obj) : Buf (w.alloc o) base g cap l := h.keep ((Below.refl _ _).alloc (Nat.le_refl _) o)
theorem Buf.isB (h : Buf w base g cap l) : IsB w (some ⟨g, 0, none⟩) cap l :=
  ⟨h.le, (fun e => by cases e), fun j hj => ⟨_, rfl, by rw [Addr.add_lit, Nat.zero_add]; exact h.holds j _ (byteV_at l j hj)⟩⟩
end
theorem setCells_turns (g : Nat) : ∀ (vs : List Value) (o : Nat) (w : World), Turns (fun k => k = g) w (w.setCells g o vs)
  | [], _, w => Turns.refl _ w
  | v :: vs, o, w => (Turns.setCell (fun k => k = g) w ⟨g, o, none⟩ v rfl).trans (setCells_turns g vs (o + 1) _) (fun _ h _ => h)
/-- '[]byte(s)', s any text -/
theorem buf_of {P : Program} (W : World) (s : ByteArray) (src dst e : TypeId) (hz : s.size ≤ maxLen) (hs : P.underlying src = some .string) (hd : P.underlying dst = some (.slice e)) (he : P.underlying e = some (.int .u8)) :
    ∃ cap w1, (convert src dst (.string s)).run P W = .ok (.slice (some ⟨W.heap.size, 0, none⟩) s.size cap) w1 ∧ Below W.heap.size W w1 ∧ Buf w1 W.heap.size W.heap.size cap s.data.toList := by
  refine ⟨_, _, run_bytes_of_string (P := P) W src dst e s hs hd he, ((below_drew _ W).alloc (Nat.le_refl _) _), ?_⟩
  have hge := grownCap_ge W s.size 0 e
  have hle := grownCap_le_maxLen W s.size 0 e hz
  generalize grownCap W s.size 0 e = cap at hge hle ⊢
  have hsz : (bytesRow s cap).size = cap := by
    unfold bytesRow
    have : s.data.size = s.size := rfl
    simp only [Array.size_append, Array.size_map, Array.size_replicate, this]; omega
  refine ⟨Nat.le_refl _, by simp, by rw [Ch.len_list]; exact hge, hle, fun j u hj => ?_, fun j hj => ⟨?_, ?_⟩⟩
  · have hjl : j < s.data.toList.length := by
      have := (List.getElem?_eq_some_iff.1 hj).1
      rwa [byteV_length] at this
    rw [byteV_at _ j hjl] at hj
    injection hj with hj; subst hj
    have hjs : j < s.size := by rw [Ch.len_list] at hjl; exact hjl
    have := World.cell?_alloc_mark W.drew (bytesRow s cap) e ((bytesRow s cap).size, (bytesRow s cap).size + 1) j
    refine this.trans ?_
    rw [bytesRow_at s cap j hjs]
    simp
  · have := World.cell?_alloc_mark W.drew (bytesRow s cap) e ((bytesRow s cap).size, (bytesRow s cap).size + 1) j
    rw [show (W.drew.alloc (.cells (bytesRow s cap) e ((bytesRow s cap).size, (bytesRow s cap).size + 1))).cell? ⟨W.heap.size, j, none⟩ = (bytesRow s cap)[j]? from this, Array.getElem?_eq_getElem (by rw [hsz]; exact hj)]
    rfl
  · refine (World.frozen?_alloc_mark W.drew (bytesRow s cap) e (bytesRow s cap).size ((bytesRow s cap).size + 1) j).trans ?_
    rw [decide_eq_false (by rw [hsz]; omega)]; rfl
/-- 'append(b, x...)' -/
theorem run_append_buf {P : Program} (w : World) (t tx ty e : TypeId) (i : TypeInfo) (ht : P.underlying t = some (.slice e)) (hi : P.info? e = some i) (hz : i.zero = some (.int .u8 0)) (hz1 : i.size = 1) (hz2 : i.bytes = 1)
    {base g cap n : Nat} {l l2 : List UInt8} (h : Buf w base g cap l) (hn : l.length = n) (x : Value) (n2 : Nat) (hs : Src P 1 tx x n2 (byteV l2) w) (hlen : n + n2 ≤ 140737488355328) :
    ∃ g' cap' w', (Builtin.append_ #[t, tx] ty #[.slice (some ⟨g, 0, none⟩) n cap, x]).run P w = .ok (.slice (some ⟨g', 0, none⟩) (n + n2) cap') w' ∧ Buf w' base g' cap' (l ++ l2) ∧ Turns (fun k => k = g) w w' := by
  subst hn
  have hl2 : l2.length = n2 := by have := hs.newsLen; rw [byteV_length] at this; omega
  have hhl := h.le
  rcases Nat.lt_or_ge cap (l.length + n2) with hroom | hroom
  · have hold : (Builtin.firstCells i.size l.length (.slice (some ⟨g, 0, none⟩) l.length cap)).run P w.drew = .ok (byteV l).toArray w.drew :=
      run_firstCells_some w.drew i.size l.length ⟨g, 0, none⟩ l.length cap (byteV l) (by rw [byteV_length, hz1]; omega) (fun j u hj => by rw [Addr.add_lit, Nat.zero_add]; exact h.holds j u hj)
    have hr := run_append_grow_src (P := P) w t tx ty e i (.int .u8 0) ht hi hz (some ⟨g, 0, none⟩) l.length cap (byteV l) hold x n2 (byteV l2) (by rw [hz1]; exact hs) hroom (by omega) (by rw [hz2]; exact growslice_fits (by omega) (by omega))
    have hge := grownCap_ge w (l.length + n2) cap e
    have hle := grownCap_le_maxLen w (l.length + n2) cap e (by unfold maxLen; omega)
    generalize grownCap w (l.length + n2) cap e = cap' at hr hge hle
    have hsz : ((byteV l ++ byteV l2).toArray ++ Builtin.zeroCells (Value.int .u8 0).cells (cap' - (l.length + n2))).size = cap' := by
      have hz1 : (Value.int IntKind.u8 0).cells.size = 1 := rfl
      simp only [Array.size_append, List.size_toArray, List.length_append, byteV_length, size_zeroCells, hz1]; omega
    refine ⟨_, _, _, hr, ⟨Nat.le_trans h.base_ (Nat.le_of_lt h.lt), by simp, by rw [List.length_append]; omega, hle, fun j u hj => ?_, fun j hj => ⟨?_, ?_⟩⟩, ⟨rfl, rfl, rfl, by simp, fun k hk _ => Below.heap_alloc w.drew _ k hk⟩⟩
    · rw [show (w.drew.alloc (.cells ((byteV l ++ byteV l2).toArray ++ Builtin.zeroCells (Value.int .u8 0).cells (cap' - (l.length + n2))) e)).cell? ⟨w.heap.size, j, none⟩ = _ from World.cell?_alloc_new w.drew _ _ j]
      rw [byteV_append] at hj
      rw [Array.getElem?_append_left (by rw [List.size_toArray]; exact (List.getElem?_eq_some_iff.1 hj).1), List.getElem?_toArray]
      exact hj
    · rw [show (w.drew.alloc (.cells ((byteV l ++ byteV l2).toArray ++ Builtin.zeroCells (Value.int .u8 0).cells (cap' - (l.length + n2))) e)).cell? ⟨w.heap.size, j, none⟩ = _ from World.cell?_alloc_new w.drew _ _ j, Array.getElem?_eq_getElem (by rw [hsz]; exact hj)]
      rfl
    · exact (World.frozen?_alloc_mark w.drew _ e 0 0 j).trans (by simp)
  · have hr := run_append_room_src (P := P) w t tx ty e i ht hi g 0 l.length cap x n2 (byteV l2) (by rw [hz1]; exact hs) hroom (fun j hj => by rw [hz1, Nat.mul_one, Nat.zero_add]; rw [byteV_length] at hj; exact (h.there _ (by omega)).1) (fun j hj => by rw [hz1, Nat.mul_one, Nat.zero_add]; rw [byteV_length] at hj; exact (h.there _ (by omega)).2)
    rw [hz1, Nat.mul_one, Nat.zero_add] at hr
    have hT := setCells_turns g (byteV l2) l.length w
    have hin := World.cell?_setCells_in g (byteV l2) l.length w (fun j hj => by rw [byteV_length] at hj; exact (h.there _ (by omega)).1)
    have hout := World.cell?_setCells_out g (byteV l2) l.length w
    refine ⟨_, _, _, hr, ⟨h.base_, Nat.lt_of_lt_of_le h.lt hT.size, by rw [List.length_append]; omega, h.max, fun j u hj => ?_, fun j hj => ⟨?_, by rw [World.frozen?_setCells]; exact (h.there j hj).2⟩⟩, hT⟩
    · rw [byteV_append] at hj
      rcases Nat.lt_or_ge j l.length with hjl | hjl
      · rw [List.getElem?_append_left (by rw [byteV_length]; exact hjl)] at hj
        rw [hout ⟨g, j, none⟩ (fun _ _ => Or.inl hjl)]
        exact h.holds j u hj
      · rw [List.getElem?_append_right (by rw [byteV_length]; exact hjl), byteV_length] at hj
        obtain ⟨k, rfl⟩ : ∃ k, j = l.length + k := ⟨j - l.length, by omega⟩
        rw [Nat.add_sub_cancel_left] at hj
        obtain ⟨hk, e⟩ := List.getElem?_eq_some_iff.1 hj
        rw [hin k hk, e]
    · rcases Nat.lt_or_ge j l.length with hjl | hjl
      · rw [hout ⟨g, j, none⟩ (fun _ _ => Or.inl hjl)]; exact (h.there j hj).1
      · rcases Nat.lt_or_ge j (l.length + (byteV l2).length) with hj2 | hj2
        · obtain ⟨k, rfl⟩ : ∃ k, j = l.length + k := ⟨j - l.length, by omega⟩
          rw [hin k (by omega)]; rfl
        · rw [hout ⟨g, j, none⟩ (fun _ _ => Or.inr hj2)]; exact (h.there j hj).1
/-- .. for a walk -/
theorem wpList_append_buf {P : Program} {w : World} {ops : Array Oper} {rest : List Oper} {o : Oper} {a : Act} {Q : Exit → Act → World → Prop} (hgd : o.guard = none) (s x : Operand) (t tx : TypeId)
    (ho : o.op = .call { callee := .builtin .append, args := #[s, x], argTypes := #[t, tx] })
    (e : TypeId) (i : TypeInfo) (ht : P.underlying t = some (.slice e)) (hi : P.info? e = some i) (hz : i.zero = some (.int .u8 0)) (hz1 : i.size = 1) (hz2 : i.bytes = 1)
    {base g cap n : Nat} {l l2 : List UInt8} (hv : a.eval s = .slice (some ⟨g, 0, none⟩) n cap) (h : Buf w base g cap l) (hn : l.length = n) (xv : Value) (n2 : Nat) (hx : a.eval x = xv) (hs : Src P 1 tx xv n2 (byteV l2) w) (hlen : n + n2 ≤ 140737488355328)
    (hK : ∀ g' cap' w', Buf w' base g' cap' (l ++ l2) → Turns (fun k => k = g) w w' → wpList P ops Q rest (a.put o.dst (.slice (some ⟨g', 0, none⟩) (n + n2) cap')) w') : wpList P ops Q (o :: rest) a w := by
  refine wpList_plain hgd fun K hK' => ?_
  obtain ⟨g', cap', w', hrun, h1, h2⟩ := run_append_buf (P := P) w t tx o.type e i ht hi hz hz1 hz2 h hn xv n2 hs hlen
  unfold Oper.wp
  simp [execOp, ho, resolve, invoke, builtin, hv, hx, hrun, Result.andThen]
  exact hK' _ _ (hK g' cap' w' h1 h2)
/-- what is appended: a text -/
theorem src_text {P : Program} {tx : TypeId} (hk : P.underlying tx = some .string) (s : ByteArray) (w : World) : Src P 1 tx (.string s) s.size (byteV s.data.toList) w := Src.ofString w hk s
/-- what is appended: one byte in a new block -/
theorem src_one {P : Program} {tx e' : TypeId} (hk : P.underlying tx = some (.slice e')) (W : World) (c : UInt8) (t : Nat) (fr : Nat × Nat) {k : Nat} (hW : W.heap.size = k) : Src P 1 tx (.slice (some ⟨k, 0, none⟩) 1 1) 1 (byteV [c]) (W.alloc (.cells #[.int .u8 (c.toNat : Int)] t fr)) := by
  subst hW
  refine Src.ofSlice _ hk _ 1 1 _ rfl (fun j u hj => ?_) (byteV_one _)
  have e : j = 0 := by
    have := (List.getElem?_eq_some_iff.1 hj).1
    simp [byteV] at this; exact this
  subst e
  simp [byteV] at hj
  subst hj
  rw [Addr.add_lit, World.cell?_alloc_mark]
  rfl
end Go.Proofs.Ytohddkniphcecab

/- Package params, walked: appendValue. -/
namespace Go.Proofs.Ytohddkniphcecab
open Go.RowKit

/-- a value's text -/
def Pm.valT (v : List UInt8) : List UInt8 := if Ch.isToken v then v else [34] ++ Pm.esc v ++ [34]
/-- what appendValue answers -/
def ApOut (base : Nat) (l : List UInt8) (w : World) (e : Ending) (w' : World) : Prop :=
  ∃ g cap, e = .returned (.slice (some ⟨g, 0, none⟩) l.length cap) ∧ Buf w' base g cap l ∧ Turns (fun k => base ≤ k) w w'
theorem Buf.up {w w' : World} {base g : Nat} (h : base ≤ g) (ht : Turns (fun k => k = g) w w') : Turns (fun k => base ≤ k) w w' := ht.mono (fun k e => by omega)
theorem turns_alloc (S : Nat → Prop) (w : World) (o : Obj) : Turns S w (w.alloc o) := Turns.of_below ((Below.refl _ _).alloc (Nat.le_refl _) _)

set_option maxHeartbeats 1600000 in
theorem appendValue_any (v : ByteArray) (base g cap n : Nat) (l : List UInt8) (w : World) (h : Buf w base g cap l) (hn : l.length = n) (hl : n ≤ 1000000) (hv : v.size ≤ 2000) :
    Calls Try.prog 25 #[.slice (some ⟨g, 0, none⟩) n cap, .string v] w fun e w' => ApOut base (l ++ Pm.valT v.data.toList) w e w' := by
  have HT := Hid.mk' (isToken_any v w (by unfold maxLen; omega))
  have H := Hid.mk' h
  obtain ⟨i0, hi0, hz0, hz1, hz2⟩ := info_parts info_u8
  have Hi := Hid.mk' hi0; have Hz0 := Hid.mk' hz0; have Hz1 := Hid.mk' hz1; have Hz2 := Hid.mk' hz2
  clear h hi0 hz0 hz1 hz2
  have HN := Hid.mk' hn
  clear hn
  cases ht : Ch.isToken v.data.toList
  · rw [ht] at HT
    have HV : Hid (Pm.valT v.data.toList = [34] ++ Pm.esc v.data.toList ++ [34]) := by unfold Hid Pm.valT; rw [ht]; rfl
    clear ht
    go_enter Try.func25, Try.ntmps25
    go_wp2_with fail
    refine HT.out.mono ?_
    rintro e w1 ⟨rfl, hw⟩
    subst hw
    go_wp2_with (at_builtin; refine wpList_append_buf rfl (.tmp 12) (.tmp 13) 45 45 rfl 5 i0 Try.underlying45 Hi.out Hz0.out Hz1.out Hz2.out (l2 := [34]) rfl (H.out.alloc _) HN.out _ 1 rfl (src_one Try.underlying45 _ 34 _ _ (by simp)) (by omega) ?_; intro g1 cap1 w2 hB1 hT1; have HB1 := Hid.mk' hB1; have HT1 : Hid (Turns (fun k => base ≤ k) w1 w2) := (turns_alloc _ _ _).trans (Buf.up H.out.base_ hT1) (fun _ h _ => h); clear hB1 hT1)
    go_loopw [0, 17] (fun b t wr => ∃ (k g' cap' m : Nat), k ≤ v.size ∧ t = .int .i64 k ∧ b = .slice (some ⟨g', 0, none⟩) m cap' ∧ m = (l ++ [34] ++ Pm.esc (v.data.toList.take k)).length ∧ Buf wr base g' cap' (l ++ [34] ++ Pm.esc (v.data.toList.take k)) ∧ Turns (fun k => base ≤ k) w1 wr) (fun _ t _ => v.size - (intOf t).toNat)
    case atStart => exact ⟨0, g1, cap1, n + 1, Nat.zero_le _, rfl, rfl, by have := HN.out; simp [Pm.esc]; omega, by simpa [Pm.esc] using HB1.out, HT1.out⟩
    case round =>
      clear HB1 HT1
      obtain ⟨k, g2, cap2, m, hk, rfl, rfl, hm, hB, hT⟩ := hrel
      have HB := Hid.mk' hB
      have HTr := Hid.mk' hT
      have HM := Hid.mk' hm.symm
      have hml : m ≤ 1004001 := by
        have := Pm.esc_length (v.data.toList.take k)
        have h2 := List.length_take_le k v.data.toList
        have h3 := HN.out
        rw [hm]; simp; omega
      clear hB hT hm
      by_cases hlt : k < v.size
      · have HS : Hid (Pm.esc (v.data.toList.take (k + 1)) = Pm.esc (v.data.toList.take k) ++ Pm.escB v[k]) := by
          unfold Hid; rw [Ch.take_snoc v k hlt, Pm.esc_snoc]
        by_cases hq : v[k] = 34 ∨ v[k] = 92
        · have HE : Hid (Pm.escB v[k] = [92, v[k]]) := by unfold Hid Pm.escB; rw [if_pos hq]
          by_cases h34 : v[k] = 34
          · have b1 : ((v[k].toNat : Int) == 34) = true := by rw [h34]; rfl
            have n1 : (v[k].toNat : Int) = 34 := beq_iff_eq.1 b1
            have HC := Hid.mk' h34
            clear hq h34 b1
            go_wp2_with (first | (at_builtin; refine wpList_append_buf rfl (.tmp 29) (.tmp 30) 45 45 rfl 5 i0 Try.underlying45 Hi.out Hz0.out Hz1.out Hz2.out (l2 := [92]) rfl (HB.out.alloc _) HM.out _ 1 rfl (src_one Try.underlying45 _ 92 _ _ (by simp)) (by omega) ?_; intro g3 cap3 w3 hB3 hT3; have HB3 := Hid.mk' hB3; have HT3 := Hid.mk' (HTr.out.trans ((turns_alloc (fun k => base ≤ k) _ _).trans (Buf.up HB.out.base_ hT3) (fun _ h _ => h)) (fun _ h _ => h)); clear hB3 hT3) | (at_builtin; refine wpList_append_buf rfl (.tmp 32) (.tmp 36) 45 45 rfl 5 i0 Try.underlying45 Hi.out Hz0.out Hz1.out Hz2.out (l2 := [34]) rfl (HB3.out.alloc _) (by rw [List.length_append, HM.out]; rfl) _ 1 rfl (src_one Try.underlying45 _ 34 _ _ (by simp)) (by omega) ?_; intro g4 cap4 w4 hB4 hT4; have HB4 := Hid.mk' hB4; have HT4 := Hid.mk' (HT3.out.trans ((turns_alloc (fun k => base ≤ k) _ _).trans (Buf.up HB3.out.base_ hT4) (fun _ h _ => h)) (fun _ h _ => h)); clear hB4 hT4))
            go_roundw
            case rel =>
              have e : l ++ [34] ++ Pm.esc (v.data.toList.take k) ++ [92] ++ [34] = l ++ [34] ++ Pm.esc (v.data.toList.take (k + 1)) := by
                rw [HS.out, HE.out, HC.out]; simp
              refine ⟨k + 1, g4, cap4, m + 1 + 1, by omega, by go_num, rfl, ?_, by rw [← e]; exact HB4.out, HT4.out⟩
              rw [← e, List.length_append, List.length_append, HM.out]; rfl
            case measure => simp [intOf]; omega
          · have h92 := hq.resolve_left h34
            have b1 : ((v[k].toNat : Int) == 34) = false := byte_ne' h34
            have b2 : ((v[k].toNat : Int) == 92) = true := by rw [h92]; rfl
            have n1 : ¬ (v[k].toNat : Int) = 34 := beq_eq_false_iff_ne.1 b1
            have n2 : (v[k].toNat : Int) = 92 := beq_iff_eq.1 b2
            have HC := Hid.mk' h92
            clear hq h34 h92 b2
            go_wp2_with (first | (at_builtin; refine wpList_append_buf rfl (.tmp 29) (.tmp 30) 45 45 rfl 5 i0 Try.underlying45 Hi.out Hz0.out Hz1.out Hz2.out (l2 := [92]) rfl (HB.out.alloc _) HM.out _ 1 rfl (src_one Try.underlying45 _ 92 _ _ (by simp)) (by omega) ?_; intro g3 cap3 w3 hB3 hT3; have HB3 := Hid.mk' hB3; have HT3 := Hid.mk' (HTr.out.trans ((turns_alloc (fun k => base ≤ k) _ _).trans (Buf.up HB.out.base_ hT3) (fun _ h _ => h)) (fun _ h _ => h)); clear hB3 hT3) | (at_builtin; refine wpList_append_buf rfl (.tmp 32) (.tmp 36) 45 45 rfl 5 i0 Try.underlying45 Hi.out Hz0.out Hz1.out Hz2.out (l2 := [92]) rfl (HB3.out.alloc _) (by rw [List.length_append, HM.out]; rfl) _ 1 rfl (src_one Try.underlying45 _ 92 _ _ (by simp)) (by omega) ?_; intro g4 cap4 w4 hB4 hT4; have HB4 := Hid.mk' hB4; have HT4 := Hid.mk' (HT3.out.trans ((turns_alloc (fun k => base ≤ k) _ _).trans (Buf.up HB3.out.base_ hT4) (fun _ h _ => h)) (fun _ h _ => h)); clear hB4 hT4))
            go_roundw
            case rel =>
              have e : l ++ [34] ++ Pm.esc (v.data.toList.take k) ++ [92] ++ [92] = l ++ [34] ++ Pm.esc (v.data.toList.take (k + 1)) := by
                rw [HS.out, HE.out, HC.out]; simp
              refine ⟨k + 1, g4, cap4, m + 1 + 1, by omega, by go_num, rfl, ?_, by rw [← e]; exact HB4.out, HT4.out⟩
              rw [← e, List.length_append, List.length_append, HM.out]; rfl
            case measure => simp [intOf]; omega
        · have HE : Hid (Pm.escB v[k] = [v[k]]) := by unfold Hid Pm.escB; rw [if_neg hq]
          have b1 : ((v[k].toNat : Int) == 34) = false := byte_ne' (fun e => hq (Or.inl e))
          have b2 : ((v[k].toNat : Int) == 92) = false := byte_ne' (fun e => hq (Or.inr e))
          have n1 : ¬ (v[k].toNat : Int) = 34 := beq_eq_false_iff_ne.1 b1
          have n2 : ¬ (v[k].toNat : Int) = 92 := beq_eq_false_iff_ne.1 b2
          clear hq
          go_wp2_with (at_builtin; refine wpList_append_buf rfl (.tmp 32) (.tmp 36) 45 45 rfl 5 i0 Try.underlying45 Hi.out Hz0.out Hz1.out Hz2.out (l2 := [v[k]]) rfl (HB.out.alloc _) HM.out _ 1 rfl (src_one Try.underlying45 _ v[k] _ _ (by simp)) (by omega) ?_; intro g4 cap4 w4 hB4 hT4; have HB4 := Hid.mk' hB4; have HT4 := Hid.mk' (HTr.out.trans ((turns_alloc (fun k => base ≤ k) _ _).trans (Buf.up HB.out.base_ hT4) (fun _ h _ => h)) (fun _ h _ => h)); clear hB4 hT4)
          go_roundw
          case rel =>
            have e : l ++ [34] ++ Pm.esc (v.data.toList.take k) ++ [v[k]] = l ++ [34] ++ Pm.esc (v.data.toList.take (k + 1)) := by
              rw [HS.out, HE.out]; simp
            refine ⟨k + 1, g4, cap4, m + 1, by omega, by go_num, rfl, ?_, by rw [← e]; exact HB4.out, HT4.out⟩
            rw [← e, List.length_append, HM.out]; rfl
          case measure => simp [intOf]; omega
      · obtain rfl : k = v.size := by omega
        go_wp2_with (at_builtin; refine wpList_append_buf rfl (.tmp 39) (.tmp 40) 45 45 rfl 5 i0 Try.underlying45 Hi.out Hz0.out Hz1.out Hz2.out (l2 := [34]) rfl (HB.out.alloc _) HM.out _ 1 rfl (src_one Try.underlying45 _ 34 _ _ (by simp)) (by omega) ?_; intro g4 cap4 w4 hB4 hT4; have HB4 := Hid.mk' hB4; have HT4 := Hid.mk' (HTr.out.trans ((turns_alloc (fun k => base ≤ k) _ _).trans (Buf.up HB.out.base_ hT4) (fun _ h _ => h)) (fun _ h _ => h)); clear hB4 hT4)
        go_ret
        have e : l ++ [34] ++ Pm.esc (v.data.toList.take v.size) ++ [34] = l ++ Pm.valT v.data.toList := by
          rw [HV.out, Ch.take_all v _ (Nat.le_refl _)]; simp
        have hm := HM.out
        refine ⟨g4, cap4, ?_, by rw [← e]; exact HB4.out, HT4.out⟩
        rw [← e, List.length_append, hm]; rfl
  · rw [ht] at HT
    have HV : Hid (Pm.valT v.data.toList = v.data.toList) := by unfold Hid Pm.valT; rw [ht]; rfl
    clear ht
    go_enter Try.func25, Try.ntmps25
    go_wp2_with fail
    refine HT.out.mono ?_
    rintro e w1 ⟨rfl, hw⟩
    subst hw
    go_wp2_with (at_builtin; refine wpList_append_buf rfl (.tmp 9) (.tmp 10) 45 9 rfl 5 i0 Try.underlying45 Hi.out Hz0.out Hz1.out Hz2.out (l2 := v.data.toList) rfl H.out HN.out _ v.size rfl (src_text Try.underlying9 v _) (by omega) ?_; intro g1 cap1 w2 hB1 hT1; have HB1 := Hid.mk' hB1; have HT1 := Hid.mk' (Buf.up H.out.base_ hT1); clear hB1 hT1)
    go_ret
    refine ⟨g1, cap1, ?_, by rw [HV.out]; exact HB1.out, HT1.out⟩
    rw [HV.out, List.length_append, HN.out, Ch.len_list]; rfl
end Go.Proofs.Ytohddkniphcecab

/- Plain laws of a mark in a stream, with no program in them: the longest end of what came that begins the mark, and how one more byte turns it. -/
namespace Go.Proofs.Ytohddkniphcecab.Sk

/-- the longest beginning of m, of at most b bytes, that ends x -/
def best (m x : List UInt8) : Nat → Nat
  | 0 => 0
  | k + 1 => if m.take (k + 1) <:+ x then k + 1 else best m x k
/-- r is that -/
def IsBest (m x : List UInt8) (b r : Nat) : Prop := r ≤ b ∧ m.take r <:+ x ∧ ∀ k, r < k → k ≤ b → ¬ m.take k <:+ x

theorem best_is (m x : List UInt8) : ∀ b, IsBest m x b (best m x b) := by
  intro b
  induction b with
  | zero => exact ⟨Nat.le_refl _, by simp [best], fun k h1 h2 => by simp [best] at h1; omega⟩
  | succ b ih =>
    unfold best
    by_cases h : m.take (b + 1) <:+ x
    · rw [if_pos h]; exact ⟨Nat.le_refl _, h, fun k h1 h2 => by omega⟩
    · rw [if_neg h]
      refine ⟨by have := ih.1; omega, ih.2.1, fun k h1 h2 => ?_⟩
      by_cases e : k = b + 1
      · subst e; exact h
      · exact ih.2.2 k h1 (by omega)
theorem IsBest.eq {m x : List UInt8} {b r r' : Nat} (h : IsBest m x b r) (h' : IsBest m x b r') : r = r' := by
  rcases Nat.lt_trichotomy r r' with l | l | l
  · exact absurd h'.2.1 (h.2.2 r' l h'.1)
  · exact l
  · exact absurd h.2.1 (h'.2.2 r l h.1)
theorem IsBest.best {m x : List UInt8} {b r : Nat} (h : IsBest m x b r) : best m x b = r := (best_is m x b).eq h
theorem best_le (m x : List UInt8) (b : Nat) : best m x b ≤ b := (best_is m x b).1

theorem take_snoc (m : List UInt8) (j : Nat) (h : j < m.length) : m.take (j + 1) = m.take j ++ [m[j]] := List.take_succ_eq_append_getElem h
theorem snoc_suffix (t x : List UInt8) (a c : UInt8) : t ++ [a] <:+ x ++ [c] ↔ t <:+ x ∧ a = c := by
  constructor
  · rintro ⟨y, hy⟩
    rw [← List.append_assoc] at hy
    obtain ⟨h1, h2⟩ := List.append_inj' hy rfl
    exact ⟨⟨y, h1⟩, by simpa using h2⟩
  · rintro ⟨⟨y, hy⟩, rfl⟩
    exact ⟨y, by rw [← List.append_assoc, hy]⟩
/-- one byte more: an end begins the mark if what was ahead of it did -/
theorem step_iff (m x : List UInt8) (c : UInt8) (j : Nat) (h : j < m.length) : m.take (j + 1) <:+ x ++ [c] ↔ m.take j <:+ x ∧ m[j] = c := by
  rw [take_snoc m j h, snoc_suffix]
theorem within {m x : List UInt8} {j k : Nat} (hj : m.take j <:+ x) (hk : m.take k <:+ x) (h : j ≤ k) : m.take j <:+ m.take k :=
  List.suffix_of_suffix_length_le hj hk (by rw [List.length_take, List.length_take]; omega)

/-- what the going back keeps: k bytes of the mark end its first n, and none that is longer, and at most n, goes on with c -/
def Back (m : List UInt8) (n : Nat) (c : UInt8) (k : Nat) : Prop :=
  k ≤ n ∧ m.take k <:+ m.take n ∧ ∀ j, k < j → j ≤ n → (hj : j < m.length) → m.take j <:+ m.take n → m[j] ≠ c
theorem back_start (m : List UInt8) (n : Nat) (c : UInt8) : Back m n c n := ⟨Nat.le_refl _, List.suffix_refl _, fun j h1 h2 => by omega⟩
theorem back_step {m : List UInt8} {n k : Nat} {c : UInt8} (h : Back m n c k) (hk : k < m.length) (h0 : 0 < k) (hc : m[k] ≠ c) : Back m n c (best m (m.take k) (k - 1)) := by
  have hb := best_is m (m.take k) (k - 1)
  generalize best m (m.take k) (k - 1) = r at hb
  refine ⟨by have := hb.1; have := h.1; omega, hb.2.1.trans h.2.1, fun j h1 h2 hj hs => ?_⟩
  by_cases e : j = k
  · subst e; exact hc
  · by_cases g : k < j
    · exact h.2.2 j g h2 hj hs
    · exact absurd (within hs h.2.1 (by omega)) (hb.2.2 j h1 (by omega))
theorem back_yes {m : List UInt8} {n k : Nat} {c : UInt8} (h : Back m n c k) (hn : n < m.length) (hk : k < m.length) (hc : m[k] = c) : IsBest m (m.take n ++ [c]) m.length (k + 1) := by
  refine ⟨by omega, (step_iff m _ c k hk).2 ⟨h.2.1, hc⟩, fun j h1 h2 hs => ?_⟩
  obtain ⟨i, rfl⟩ : ∃ i, j = i + 1 := ⟨j - 1, by omega⟩
  obtain ⟨hs1, hs2⟩ := (step_iff m _ c i (by omega)).1 hs
  have hin : i ≤ n := by
    have := hs1.length_le
    rw [List.length_take, List.length_take] at this; omega
  exact h.2.2 i (by omega) hin (by omega) hs1 hs2
theorem back_no {m : List UInt8} {n : Nat} {c : UInt8} (h : Back m n c 0) (hn : n < m.length) (hm : 0 < m.length) (hc : m[0] ≠ c) : IsBest m (m.take n ++ [c]) m.length 0 := by
  refine ⟨by omega, by simp, fun j h1 h2 hs => ?_⟩
  obtain ⟨i, rfl⟩ : ∃ i, j = i + 1 := ⟨j - 1, by omega⟩
  obtain ⟨hs1, hs2⟩ := (step_iff m _ c i (by omega)).1 hs
  have hin : i ≤ n := by
    have := hs1.length_le
    rw [List.length_take, List.length_take] at this; omega
  by_cases e : i = 0
  · subst e; exact hc hs2
  · exact h.2.2 i (by omega) hin (by omega) hs1 hs2
theorem none_is (x : List UInt8) : IsBest [] x 0 0 := ⟨Nat.le_refl _, by simp, fun k h1 h2 => by omega⟩

/-- how much of the mark there is with c behind its first n bytes -/
def fit (m : List UInt8) (n : Nat) (c : UInt8) : Nat := best m (m.take n ++ [c]) m.length
theorem fit_is (m : List UInt8) (n : Nat) (c : UInt8) : IsBest m (m.take n ++ [c]) m.length (fit m n c) := best_is _ _ _
theorem fit_le (m : List UInt8) (n : Nat) (c : UInt8) : fit m n c ≤ m.length := best_le _ _ _
theorem fit_le' (m : List UInt8) (n : Nat) (c : UInt8) : fit m n c ≤ n + 1 := by
  have h := (fit_is m n c).2.1.length_le
  have h2 := fit_le m n c
  simp at h; omega
/-- how many of the mark's first n bytes, but not all n, end them and begin the mark -/
def bk (m : List UInt8) (n : Nat) : Nat := best m (m.take n) (n - 1)
theorem bk_lt (m : List UInt8) (n : Nat) (h : 0 < n) : bk m n < n := by have := best_le m (m.take n) (n - 1); unfold bk; omega
theorem bk_le (m : List UInt8) (n : Nat) : bk m n ≤ n - 1 := best_le m (m.take n) (n - 1)
theorem bk_zero (m : List UInt8) : bk m 0 = 0 := rfl
theorem bk_one (m : List UInt8) : bk m 1 = 0 := rfl
theorem bk_next (m : List UInt8) (n : Nat) (h0 : 0 < n) (h : n < m.length) : bk m (n + 1) = fit m (bk m n) m[n] := by
  have hb : IsBest m (m.take n) (n - 1) (bk m n) := best_is _ _ _
  have hf := fit_is m (bk m n) m[n]
  have hle := fit_le' m (bk m n) m[n]
  have hlt := bk_lt m n h0
  generalize bk m n = b at *
  generalize fit m b m[n] = r at *
  show best m (m.take (n + 1)) n = r
  refine IsBest.best ⟨by omega, ?_, fun j h1 h2 hs => ?_⟩
  · rw [take_snoc m n h]
    refine hf.2.1.trans ((snoc_suffix _ _ _ _).2 ⟨hb.2.1, rfl⟩)
  · obtain ⟨i, rfl⟩ : ∃ i, j = i + 1 := ⟨j - 1, by omega⟩
    rw [take_snoc m n h] at hs
    obtain ⟨hs1, hs2⟩ := (step_iff m _ _ i (by omega)).1 hs
    have hib : i ≤ b := by
      refine Nat.le_of_not_lt fun hlt => hb.2.2 i hlt (by omega) hs1
    exact hf.2.2 (i + 1) h1 (by omega) ((step_iff m _ _ i (by omega)).2 ⟨within hs1 hb.2.1 hib, hs2⟩)

/-- what is held of what came -/
def held (m x : List UInt8) : Nat := best m x (m.length - 1)
theorem held_is (m x : List UInt8) : IsBest m x (m.length - 1) (held m x) := best_is _ _ _
theorem held_le (m x : List UInt8) : held m x ≤ m.length - 1 := best_le _ _ _
theorem held_nil (m : List UInt8) : held m [] = 0 := by
  have h := (held_is m []).2.1.length_le
  have h2 := held_le m []
  rw [List.length_take] at h; simp at h
  rcases h with h | h
  · exact h
  · subst h; simpa using h2
theorem held_le_len (m x : List UInt8) : held m x ≤ x.length := by
  have h := (held_is m x).2.1.length_le
  have := held_le m x
  rw [List.length_take] at h; omega
theorem held_drop (m x : List UInt8) : x.drop (x.length - held m x) = m.take (held m x) := by
  have h := (held_is m x).2.1
  have hl := held_le m x
  obtain ⟨y, hy⟩ := h
  have e : x.length = y.length + held m x := by
    have := congrArg List.length hy
    rw [List.length_append, List.length_take] at this; omega
  rw [e, Nat.add_sub_cancel]
  conv => lhs; rw [← hy]
  exact List.drop_left
/-- with one byte more just what is held matters -/
theorem fit_held (m x : List UInt8) (c : UInt8) : IsBest m (x ++ [c]) m.length (fit m (held m x) c) := by
  have hh := held_is m x
  have hf := fit_is m (held m x) c
  generalize held m x = h at *
  generalize fit m h c = r at *
  refine ⟨hf.1, hf.2.1.trans ((snoc_suffix _ _ _ _).2 ⟨hh.2.1, rfl⟩), fun j h1 h2 hs => ?_⟩
  obtain ⟨i, rfl⟩ : ∃ i, j = i + 1 := ⟨j - 1, by omega⟩
  obtain ⟨hs1, hs2⟩ := (step_iff m _ _ i (by omega)).1 hs
  have hib : i ≤ h := Nat.le_of_not_lt fun hlt => hh.2.2 i hlt (by omega) hs1
  exact hf.2.2 (i + 1) h1 h2 ((step_iff m _ _ i (by omega)).2 ⟨within hs1 hh.2.1 hib, hs2⟩)

/-- is the mark found with c? -/
def found (m : List UInt8) (h : Nat) (c : UInt8) : Bool := decide (0 < m.length) && decide (fit m h c = m.length)
/-- what is answered -/
def out (m : List UInt8) (h : Nat) (c : UInt8) : List UInt8 := (m.take h ++ [c]).take (h + 1 - fit m h c)
/-- what is held behind it -/
def after (m : List UInt8) (h : Nat) (c : UInt8) : Nat := if found m h c then 0 else fit m h c

theorem found_iff (m x : List UInt8) (c : UInt8) : found m (held m x) c = true ↔ 0 < m.length ∧ m <:+ x ++ [c] := by
  have hf := fit_held m x c
  unfold found
  rw [Bool.and_eq_true, decide_eq_true_eq, decide_eq_true_eq]
  constructor
  · rintro ⟨h1, h2⟩
    rw [h2] at hf
    exact ⟨h1, by simpa using hf.2.1⟩
  · rintro ⟨h1, h2⟩
    refine ⟨h1, ?_⟩
    rcases Nat.lt_or_ge (fit m (held m x) c) m.length with l | l
    · exact absurd (by simpa using h2) (hf.2.2 m.length l (Nat.le_refl _))
    · exact Nat.le_antisymm (fit_le _ _ _) l
theorem held_snoc (m x : List UInt8) (c : UInt8) (h : found m (held m x) c = false) : held m (x ++ [c]) = fit m (held m x) c := by
  have hf := fit_held m x c
  have hl := fit_le m (held m x) c
  refine IsBest.best ⟨?_, hf.2.1, fun k h1 h2 => hf.2.2 k h1 (by omega)⟩
  unfold found at h
  rw [Bool.and_eq_false_iff, decide_eq_false_iff_not, decide_eq_false_iff_not] at h
  omega
theorem after_held (m x : List UInt8) (c : UInt8) : after m (held m x) c = if found m (held m x) c then 0 else held m (x ++ [c]) := by
  unfold after
  cases h : found m (held m x) c
  · rw [held_snoc m x c h]
  · rfl
theorem after_le (m x : List UInt8) (c : UInt8) : after m (held m x) c ≤ m.length - 1 := by
  rw [after_held]
  split
  · omega
  · exact held_le _ _
/-- what is answered is that much of what came -/
theorem out_held (m x : List UInt8) (c : UInt8) : out m (held m x) c = ((x ++ [c]).drop (x.length - held m x)).take (held m x + 1 - fit m (held m x) c) := by
  unfold out
  rw [List.drop_append_of_le_length (by omega), held_drop]
theorem found_fit {m : List UInt8} {h : Nat} {c : UInt8} (hf : found m h c = true) : fit m h c = m.length ∧ 0 < m.length := by
  unfold found at hf
  rw [Bool.and_eq_true, decide_eq_true_eq, decide_eq_true_eq] at hf
  exact ⟨hf.2, hf.1⟩
theorem out_found {m : List UInt8} {h : Nat} {c : UInt8} (hf : found m h c = true) (hh : h ≤ m.length - 1) : out m h c = [] := by
  obtain ⟨h1, h2⟩ := found_fit hf
  have := fit_le' m h c
  unfold out
  rw [show h + 1 - fit m h c = 0 by omega, List.take_zero]
theorem out_none {m : List UInt8} {h : Nat} {c : UInt8} (hf : fit m h c = 0) : out m h c = m.take h ++ [c] := by
  unfold out
  rw [hf]; exact List.take_of_length_le (by simp; omega)
theorem out_some {m : List UInt8} {h : Nat} {c : UInt8} (hf : 0 < fit m h c) (hh : h ≤ m.length) : out m h c = m.take (h + 1 - fit m h c) := by
  unfold out
  rw [List.take_append_of_le_length (by rw [List.length_take]; omega), List.take_take, Nat.min_eq_left (by omega)]

/-- nowhere in x -/
def Free (m x : List UInt8) : Prop := ¬ m <:+: x
theorem free_snoc {m x : List UInt8} {c : UInt8} (h : Free m x) (h2 : ¬ m <:+ x ++ [c]) : Free m (x ++ [c]) := by
  rintro ⟨a, b, hab⟩
  rcases List.eq_nil_or_concat b with rfl | ⟨b', d, rfl⟩
  · exact h2 ⟨a, by simpa using hab⟩
  · rw [List.concat_eq_append, ← List.append_assoc] at hab
    obtain ⟨h1, _⟩ := List.append_inj' hab rfl
    exact h ⟨a, b', h1⟩
theorem free_prefix {m x y : List UInt8} (h : Free m (x ++ y)) : Free m x := by
  rintro ⟨a, b, hab⟩
  exact h ⟨a, b ++ y, by rw [← hab]; simp⟩

/-- what is answered, and what is held behind it, is what was held and c; behind a mark: and the mark -/
theorem out_after (m x : List UInt8) (c : UInt8) (hf : found m (held m x) c = false) : out m (held m x) c ++ m.take (after m (held m x) c) = m.take (held m x) ++ [c] := by
  have hff := fit_is m (held m x) c
  have hl := held_le m x
  have hle := fit_le m (held m x) c
  have hle' := fit_le' m (held m x) c
  unfold after out
  rw [hf, if_neg (by simp)]
  generalize held m x = h at *
  generalize fit m h c = r at *
  obtain ⟨y, hy⟩ := hff.2.1
  have e : h + 1 - r = y.length := by
    have := congrArg List.length hy
    simp at this; omega
  rw [e, ← hy, List.take_left]
theorem out_mark (m x : List UInt8) (c : UInt8) (hf : found m (held m x) c = true) : m.take (held m x) ++ [c] = m ∧ held m x + 1 = m.length := by
  obtain ⟨h1, h2⟩ := found_fit hf
  have hff := fit_is m (held m x) c
  have hl := held_le m x
  have hle' := fit_le' m (held m x) c
  rw [h1] at hff hle'
  have he : held m x + 1 = m.length := by omega
  refine ⟨?_, he⟩
  have := hff.2.1
  rw [List.take_length] at this
  exact (this.eq_of_length (by simp; omega)).symm
end Go.Proofs.Ytohddkniphcecab.Sk

/- The document's own answer, walked: FindFirst. -/
namespace Go.Proofs.Ytohddkniphcecab
open Go.RowKit

/-- the mark stands at i -/
def StandsAt (m x : List UInt8) (i : Nat) : Prop := i + m.length ≤ x.length ∧ (x.drop i).take m.length = m

/-- r is where it stands first, or -1 -/
def FindIs (m x : List UInt8) (r : Int) : Prop := (r = -1 ∧ ∀ j, ¬ StandsAt m x j) ∨ ∃ k : Nat, r = k ∧ StandsAt m x k ∧ ∀ j, j < k → ¬ StandsAt m x j

theorem FindIs.free {m x : List UInt8} {r : Int} (h : FindIs m x r) (hf : Sk.Free m x) : r = -1 := by
  rcases h with ⟨h, _⟩ | ⟨k, _, ⟨h1, h2⟩, _⟩
  · exact h
  · refine absurd ?_ hf
    refine ⟨x.take k, x.drop (k + m.length), ?_⟩
    rw [← h2]
    have : (x.drop k).drop m.length = x.drop (k + m.length) := by rw [List.drop_drop]
    rw [List.length_take, List.length_drop, Nat.min_eq_left (by omega), ← this, List.append_assoc, List.take_append_drop, List.take_append_drop]

theorem find_none (w : World) (ao : Option Addr) (cap : Nat) (x : List UInt8) (s : ByteArray) (hx : IsB w ao cap x) (hs : s.size = 0) :
    Calls Try.prog 26 #[.slice ao x.length cap, .string s] w fun e w' => e = .returned (.int .i64 0) ∧ w' = w := by
  have hs' : (s.size : Int) = 0 := by omega
  have hcap := hx.1
  have he : s.toList = [] := by
    rw [Lib.toList_data]
    exact List.eq_nil_of_length_eq_zero (by rw [Array.length_toList]; exact hs)
  have hq := (hx.first 0 (Nat.zero_le _)).str (P := Try.prog) 45 9 5 Try.underlying45 Try.underlying5 Try.underlying9
  simp only [List.take_zero, List.length_nil] at hq
  clear hx
  go_enter Try.func26, Try.ntmps26
  go_wp2
  go_loop [5] (fun t => t = .int .i64 0) (fun _ => 0)
  case atStart => rfl
  case round =>
    subst hrel
    go_wp2
    go_ret
    exact ⟨rfl, rfl⟩

set_option maxHeartbeats 800000 in
theorem find_some (w : World) (ao : Option Addr) (cap : Nat) (x : List UInt8) (s : ByteArray) (hx : IsB w ao cap x) (hL : s.size ≤ 1000000) (hs : 0 < s.size) (hX : x.length ≤ 1000000) :
    Calls Try.prog 26 #[.slice ao x.length cap, .string s] w fun e w' => ∃ r, e = .returned (.int .i64 r) ∧ FindIs s.data.toList x r ∧ w' = w := by
  have hcap := hx.1
  have H := Hid.mk' hx
  have HL : Hid (s.data.toList.length = s.size) := by unfold Hid; rw [Array.length_toList]; rfl
  clear hx
  go_enter Try.func26, Try.ntmps26
  go_wp2
  go_loop [5] (fun t => ∃ k : Nat, k ≤ x.length ∧ t = .int .i64 k ∧ ∀ j, j < k → ¬ StandsAt s.data.toList x j) (fun t => x.length + 1 - (intOf t).toNat)
  case atStart => exact ⟨0, Nat.zero_le _, rfl, fun j h => by omega⟩
  case round =>
    obtain ⟨k, hk, rfl, hno⟩ := hrel
    have HN := Hid.mk' hno
    clear hno
    by_cases hlt : k + s.size ≤ x.length
    · obtain ⟨a, rfl⟩ := H.out.some (by omega)
      have e1 : (k : Int) + s.size ≤ x.length := by omega
      have e2 : (k : Int) + s.size ≤ cap := by omega
      have e3 : ((k : Int) + s.size).toNat = k + s.size := by omega
      have e4 : ¬ cap = k := by omega
      have e5 : k + s.size - k = s.size := by omega
      have hq : (convert 45 9 (.slice (some (a.add k)) s.size (cap - k))).run Try.prog w = .ok (.string ⟨((x.drop k).take s.size).toArray⟩) w := by
        have h := H.out.cut (ao' := some (a.add k)) k (k + s.size) (by omega) hlt (fun _ => rfl)
        rw [e5] at h
        have h' := h.str (P := Try.prog) 45 9 5 Try.underlying45 Try.underlying5 Try.underlying9
        rw [List.length_take, List.length_drop, Nat.min_eq_left (by omega)] at h'
        exact h'
      by_cases hy : (x.drop k).take s.size = s.data.toList
      · have HY : Hid (StandsAt s.data.toList x k) := ⟨by rw [HL.out]; exact hlt, by rw [HL.out]; exact hy⟩
        have hy' : ((x.drop k).take s.size == s.toList) = true := by rw [Lib.toList_data, hy]; exact beq_self_eq_true _
        clear hy
        go_wp2
        go_ret
        exact ⟨k, rfl, Or.inr ⟨k, rfl, HY.out, HN.out⟩, rfl⟩
      · have HY : Hid (¬ StandsAt s.data.toList x k) := fun h => hy (by have := h.2; rwa [HL.out] at this)
        have hy' : ((x.drop k).take s.size == s.toList) = false := by rw [Lib.toList_data, beq_eq_false_iff_ne]; exact hy
        clear hy
        go_wp2
        go_round
        case rel =>
          refine ⟨k + 1, by omega, by go_num, fun j hj => ?_⟩
          by_cases e : j = k
          · subst e; exact HY.out
          · exact HN.out j (by omega)
        case measure => simp [intOf]; omega
    · have ht : decide ((k : Int) + s.size ≤ x.length) = false := by rw [decide_eq_false_iff_not]; omega
      go_wp2
      go_ret
      refine ⟨-1, rfl, Or.inl ⟨rfl, fun j hj => ?_⟩, rfl⟩
      by_cases e : j < k
      · exact HN.out j e hj
      · have := hj.1
        rw [HL.out] at this; omega

theorem find_any (w : World) (ao : Option Addr) (cap n : Nat) (x : List UInt8) (s : ByteArray) (hx : IsB w ao cap x) (hn : x.length = n) (hL : s.size ≤ 1000000) (hX : n ≤ 1000000) :
    Calls Try.prog 26 #[.slice ao n cap, .string s] w fun e w' => ∃ r, e = .returned (.int .i64 r) ∧ FindIs s.data.toList x r ∧ w' = w := by
  subst hn
  by_cases h : s.size = 0
  · refine (find_none w ao cap x s hx h).mono ?_
    rintro e w' ⟨rfl, hw⟩
    have e : s.data.toList = [] := by
      exact List.eq_nil_of_length_eq_zero (by rw [Array.length_toList]; exact h)
    exact ⟨0, rfl, Or.inr ⟨0, rfl, ⟨by rw [e]; simp, by rw [e]; rfl⟩, fun j hj => by omega⟩, hw⟩
  · exact find_some w ao cap x s hx hL (by omega) hX

/-- a mark of one byte -/
theorem find_one {c : UInt8} {l : List UInt8} {r : Int} (h : FindIs [c] l r) : (r = -1 ∧ Fd.at_ c l = l.length) ∨ (r = (Fd.at_ c l : Int) ∧ Fd.at_ c l < l.length) := by
  have key : ∀ j (hj : j < l.length), StandsAt [c] l j ↔ l[j] = c := fun j hj => by
    unfold StandsAt
    rw [List.drop_eq_getElem_cons hj]
    constructor
    · rintro ⟨_, h⟩
      exact (List.cons.inj (show l[j] :: List.take 0 _ = c :: [] from h)).1
    · intro e
      exact ⟨by simp; omega, by rw [e]; rfl⟩
  rcases h with ⟨h1, h2⟩ | ⟨k, h1, h2, h3⟩
  · exact Or.inl ⟨h1, Fd.at_none (fun j hj e => h2 j ((key j hj).2 e))⟩
  · have hk : k < l.length := by have := h2.1; simp at this; omega
    have e := Fd.at_is hk ((key k hk).1 h2) (fun j hj e => h3 j hj ((key j (by omega)).2 e))
    exact Or.inr ⟨by rw [e]; exact h1, by omega⟩

end Go.Proofs.Ytohddkniphcecab
