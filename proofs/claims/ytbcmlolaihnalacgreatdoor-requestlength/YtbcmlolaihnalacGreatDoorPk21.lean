/- Small texts, one behind the other: RqWrA, MemF, RqWrB, RqWrC. -/
import Derived.Test.YtbcmlolaihnalacGreatDoorPk20
import Derived.Test.YtbcmlolaihnalacGreatDoorPk17
import Derived.Lib.SliceRun
import Derived.Test.YtbcmlolaihnalacGreatDoorPk1
import Derived.Deep.AppendSrc
import Derived.Laws.IdiomCopy
import Derived.Test.YtbcmlolaihnalacGreatDoorPk18
import Derived.Deep.RegionHeldLaw
/- What request.Write calls of the library, walked: strings.Join of three texts at a blank, slices.Clone of fields. -/
namespace Go.Proofs.YtbcmlolaihnalacGreatDoor
open Go.RowKit

theorem builderExtra : Builder.Extra Tryz.prog Tryz.lays156_ren where
  sizeBuilder := by kernel_rfl
  liesBuilder := by kernel_rfl
  t5 := Tryz.underlying5
  a5 := Tryz.isAgg5
  z5 := Tryz.sizeOf5
  v5 := Tryz.zeroValue5
  infoByte := by kernel_rfl
  cellsByte := by kernel_rfl
  sizeByte := by kernel_rfl
  neB5 := by decide
/-- three texts, a blank between them -/
theorem join_three (x y z : ByteArray) (bk : Nat) (w : World) (c0 : w.cell? ⟨bk, 0, none⟩ = some (.string x)) (c1 : w.cell? ⟨bk, 1, none⟩ = some (.string y)) (c2 : w.cell? ⟨bk, 2, none⟩ = some (.string z)) (hz : x.size + y.size + z.size ≤ 1000000) :
    Calls Tryz.prog 28 #[.slice (some ⟨bk, 0, none⟩) 3 3, .string ⟨#[32]⟩] w fun e w' => e = .returned (.string ⟨(x.data.toList ++ 32 :: (y.data.toList ++ 32 :: z.data.toList)).toArray⟩) ∧ Below w.heap.size w w' := by
  have ej : Lib.join (([x, y, z] : List ByteArray).map (·.data.toList)) [32] = x.data.toList ++ 32 :: (y.data.toList ++ 32 :: z.data.toList) := by
    simp [Lib.join, List.intercalate, List.intersperse]
  have hl : ∀ s : ByteArray, s.data.toList.length = s.size := fun s => by rw [Array.length_toList]; rfl
  have h := Any.strings_Join Tryz.lays156 builderExtra bk 0 3 [x, y, z] ⟨#[32]⟩ w (fun j u hj => by
    match j, hj with
    | 0, hj => injection hj with hj; subst hj; simpa using c0
    | 1, hj => injection hj with hj; subst hj; simpa using c1
    | 2, hj => injection hj with hj; subst hj; simpa using c2
    | j + 3, hj => simp at hj) (World.block_lt_of_cell? w _ c0) (by simp) (by simp) (by
      show (Lib.join (([x, y, z] : List ByteArray).map (·.data.toList)) [32]).length ≤ _
      rw [ej]
      have := hl x; have := hl y; have := hl z
      simp only [List.length_append, List.length_cons]; omega)
  have e2 : Lib.join (([x, y, z] : List ByteArray).map (·.data.toList)) (⟨#[32]⟩ : ByteArray).data.toList = x.data.toList ++ 32 :: (y.data.toList ++ 32 :: z.data.toList) := ej
  rw [e2] at h
  exact h

set_option maxHeartbeats 1000000 in
theorem cloneFields_any (l : List (ByteArray × ByteArray)) (fo : Option Addr) (fcap n : Nat) (w : World) (hl : IsV w fo fcap n (pairV l)) (hn : l.length = n) (hN : n ≤ 1000000) :
    Calls Tryz.prog 31 #[.slice fo n fcap] w fun e w' => ∃ ao cap, e = .returned (.slice ao n cap) ∧ OwnV w' w.heap.size 43 2 ao cap n (pairV l) ∧ Below w.heap.size w w' := by
  have qT : ∀ (w : World) (a : Option Addr) (n c n' c' : Nat), (binOp .eql 34 (.slice a n c) (.slice none n' c')).run Tryz.prog w = .ok (.bool a.isNone) w := fun w a n c n' c' => Lib.run_eql_slice_nil w _ _ a n c n' c' Tryz.underlying34
  cases fo with
  | none =>
    have hc := hl.2.1 rfl
    have hn0 : n = 0 := by have := hl.1; omega
    subst hn0
    obtain rfl : l = [] := List.eq_nil_of_length_eq_zero hn
    go_enter Tryz.func31, Tryz.ntmps31
    go_wp2
    go_ret
    exact ⟨none, 0, rfl, OwnV.nil _ _ _ _, Below.refl _ _⟩
  | some a =>
    have HL := Hid.mk' hl
    have hp := pairV_length l
    obtain ⟨i0, hi0, hz0, hz1, hz2⟩ := info_parts info_fld
    have Hi := Hid.mk' hi0; have Hz0 := Hid.mk' hz0; have Hz1 := Hid.mk' hz1; have Hz2 := Hid.mk' hz2
    have HP : Hid ((pairV l).length = n * 2) := by rw [hn] at hp; exact hp
    clear hi0 hz0 hz1 hz2 hl hp hn
    go_enter Tryz.func31, Tryz.ntmps31
    go_wp2_with (at_builtin; refine wpList_append_v rfl (.tmp 5) (.tmp 6) 34 rfl w.heap.size 43 i0 (.agg #[.string ⟨#[]⟩, .string ⟨#[]⟩]) 2 32 Tryz.underlying34 Hi.out Hz0.out Hz1.out Hz2.out rfl (by decide) (n := 0) (xs := []) rfl (World.ownsRow_lit _ #[] 0 (by simp) (by decide) rfl) rfl (HL.out.alloc _) HP.out (pairV_one l) (by omega) (by omega) (by simp) ?_; intro ao3 cap3 w3 hO3 hG3 hat3; have HO3 := Hid.mk' hO3; have HG3 := Hid.mk' hG3; clear hO3 hG3 hat3)
    go_ret
    refine ⟨ao3, cap3, by simp, ?_, ?_⟩
    · have := HO3.out
      rw [List.nil_append, Nat.zero_add] at this
      exact this
    · exact ((Below.refl _ _).alloc (Nat.le_refl _) _).grown HG3.out (by simp) (fun q e => by simp [blockOf] at e; omega)
end Go.Proofs.YtbcmlolaihnalacGreatDoor

/- Bytes in memory that a conversion made, or an append: what append makes of them; of whatever program. -/
namespace Go.Proofs.YtbcmlolaihnalacGreatDoor
open Go.RowKit

/-- bytes that lie at the head of block g, from number base on, of the call's own: behind them there is room to cap -/
structure Buf (w : World) (base g cap : Nat) (l : List UInt8) : Prop where
  base_ : base ≤ g
  lt : g < w.heap.size
  le : l.length ≤ cap
  max : cap ≤ maxLen
  holds : ∀ j u, (byteV l)[j]? = some u → w.cell? ⟨g, j, none⟩ = some u
  there : ∀ j, j < cap → (w.cell? ⟨g, j, none⟩).isSome = true ∧ w.frozen? ⟨g, j, none⟩ = false
section
variable {w w' : World} {base g cap : Nat} {l : List UInt8}
theorem Buf.of_block (h : Buf w base g cap l) (hb : w'.heap[g]? = w.heap[g]?) : Buf w' base g cap l := by
  have hlt : g < w'.heap.size := by
    have : (w'.heap[g]?).isSome = true := by rw [hb, Array.getElem?_eq_getElem h.lt]; rfl
    rcases Nat.lt_or_ge g w'.heap.size with e | e
    · exact e
    · rw [Array.getElem?_eq_none e] at this; cases this
  exact ⟨h.base_, hlt, h.le, h.max, fun j u hj => by rw [World.cell?_of_block (a := ⟨g, j, none⟩) hb]; exact h.holds j u hj, fun j hj => by rw [World.cell?_of_block (a := ⟨g, j, none⟩) hb, World.frozen?_of_block (a := ⟨g, j, none⟩) hb]; exact h.there j hj⟩
theorem Buf.turns {S : Nat → Prop} (h : Buf w base g cap l) (ht : Turns S w w') (hn : ¬ S g) : Buf w' base g cap l := h.of_block (ht.block g h.lt hn)
theorem Buf.keep (h : Buf w base g cap l) (hb : Below w.heap.size w w') : Buf w' base g cap l := h.of_block (hb.block g h.lt)
theorem Buf.alloc (h : Buf w base g cap l) (o : Obj) : Buf (w.alloc o) base g cap l := h.keep ((Below.refl _ _).alloc (Nat.le_refl _) o)
theorem Buf.isB (h : Buf w base g cap l) : IsB w (some ⟨g, 0, none⟩) cap l :=
  ⟨h.le, (fun e => by cases e), fun j hj => ⟨_, rfl, by rw [Addr.add_lit, Nat.zero_add]; exact h.holds j _ (byteV_at l j hj)⟩⟩
end
theorem setCells_turns (g : Nat) : ∀ (vs : List Value) (o : Nat) (w : World), Turns (fun k => k = g) w (w.setCells g o vs)
  | [], _, w => Turns.refl _ w
  | v :: vs, o, w => (Turns.setCell (fun k => k = g) w ⟨g, o, none⟩ v rfl).trans (setCells_turns g vs (o + 1) _) (fun _ h _ => h)
/-- '[]byte(s)', s any text -/
theorem buf_of {P : Program} (W : World) (s : ByteArray) (src dst e : TypeId) (hz : s.size ≤ maxLen) (hs : P.underlying src = some .string) (hd : P.underlying dst = some (.slice e)) (he : P.underlying e = some (.int .u8)) :
    ∃ cap w1, (convert src dst (.string s)).run P W = .ok (.slice (some ⟨W.heap.size, 0, none⟩) s.size cap) w1 ∧ Below W.heap.size W w1 ∧ Buf w1 W.heap.size W.heap.size cap s.data.toList := by
  refine ⟨_, _, run_bytes_of_string (P := P) W src dst e s hs hd he, ((below_drew _ W).alloc (Nat.le_refl _) _), ?_⟩
  have hge := grownCap_ge W s.size 0 e
  have hle := grownCap_le_maxLen W s.size 0 e hz
  generalize grownCap W s.size 0 e = cap at hge hle ⊢
  have hsz : (bytesRow s cap).size = cap := by
    unfold bytesRow
    have : s.data.size = s.size := rfl
    simp only [Array.size_append, Array.size_map, Array.size_replicate, this]; omega
  refine ⟨Nat.le_refl _, by simp, by rw [Ch.len_list]; exact hge, hle, fun j u hj => ?_, fun j hj => ⟨?_, ?_⟩⟩
  · have hjl : j < s.data.toList.length := by
      have := (List.getElem?_eq_some_iff.1 hj).1
      rwa [byteV_length] at this
    rw [byteV_at _ j hjl] at hj
    injection hj with hj; subst hj
    have hjs : j < s.size := by rw [Ch.len_list] at hjl; exact hjl
    have := World.cell?_alloc_mark W.drew (bytesRow s cap) e ((bytesRow s cap).size, (bytesRow s cap).size + 1) j
    refine this.trans ?_
    rw [bytesRow_at s cap j hjs]
    simp
  · have := World.cell?_alloc_mark W.drew (bytesRow s cap) e ((bytesRow s cap).size, (bytesRow s cap).size + 1) j
    rw [show (W.drew.alloc (.cells (bytesRow s cap) e ((bytesRow s cap).size, (bytesRow s cap).size + 1))).cell? ⟨W.heap.size, j, none⟩ = (bytesRow s cap)[j]? from this, Array.getElem?_eq_getElem (by rw [hsz]; exact hj)]
    rfl
  · refine (World.frozen?_alloc_mark W.drew (bytesRow s cap) e (bytesRow s cap).size ((bytesRow s cap).size + 1) j).trans ?_
    rw [decide_eq_false (by rw [hsz]; omega)]; rfl
/-- 'append(b, x...)' -/
theorem run_append_buf {P : Program} (w : World) (t tx ty e : TypeId) (i : TypeInfo) (ht : P.underlying t = some (.slice e)) (hi : P.info? e = some i) (hz : i.zero = some (.int .u8 0)) (hz1 : i.size = 1) (hz2 : i.bytes = 1)
    {base g cap n : Nat} {l l2 : List UInt8} (h : Buf w base g cap l) (hn : l.length = n) (x : Value) (n2 : Nat) (hs : Src P 1 tx x n2 (byteV l2) w) (hlen : n + n2 ≤ 140737488355328) :
    ∃ g' cap' w', (Builtin.append_ #[t, tx] ty #[.slice (some ⟨g, 0, none⟩) n cap, x]).run P w = .ok (.slice (some ⟨g', 0, none⟩) (n + n2) cap') w' ∧ Buf w' base g' cap' (l ++ l2) ∧ Turns (fun k => k = g) w w' := by
  subst hn
  have hl2 : l2.length = n2 := by have := hs.newsLen; rw [byteV_length] at this; omega
  have hhl := h.le
  rcases Nat.lt_or_ge cap (l.length + n2) with hroom | hroom
  · have hold : (Builtin.firstCells i.size l.length (.slice (some ⟨g, 0, none⟩) l.length cap)).run P w.drew = .ok (byteV l).toArray w.drew :=
      run_firstCells_some w.drew i.size l.length ⟨g, 0, none⟩ l.length cap (byteV l) (by rw [byteV_length, hz1]; omega) (fun j u hj => by rw [Addr.add_lit, Nat.zero_add]; exact h.holds j u hj)
    have hr := run_append_grow_src (P := P) w t tx ty e i (.int .u8 0) ht hi hz (some ⟨g, 0, none⟩) l.length cap (byteV l) hold x n2 (byteV l2) (by rw [hz1]; exact hs) hroom (by omega) (by rw [hz2]; exact growslice_fits (by omega) (by omega))
    have hge := grownCap_ge w (l.length + n2) cap e
    have hle := grownCap_le_maxLen w (l.length + n2) cap e (by unfold maxLen; omega)
    generalize grownCap w (l.length + n2) cap e = cap' at hr hge hle
    have hsz : ((byteV l ++ byteV l2).toArray ++ Builtin.zeroCells (Value.int .u8 0).cells (cap' - (l.length + n2))).size = cap' := by
      have hz1 : (Value.int IntKind.u8 0).cells.size = 1 := rfl
      simp only [Array.size_append, List.size_toArray, List.length_append, byteV_length, size_zeroCells, hz1]; omega
    refine ⟨_, _, _, hr, ⟨Nat.le_trans h.base_ (Nat.le_of_lt h.lt), by simp, by rw [List.length_append]; omega, hle, fun j u hj => ?_, fun j hj => ⟨?_, ?_⟩⟩, ⟨rfl, rfl, rfl, by simp, fun k hk _ => Below.heap_alloc w.drew _ k hk⟩⟩
    · rw [show (w.drew.alloc (.cells ((byteV l ++ byteV l2).toArray ++ Builtin.zeroCells (Value.int .u8 0).cells (cap' - (l.length + n2))) e)).cell? ⟨w.heap.size, j, none⟩ = _ from World.cell?_alloc_new w.drew _ _ j]
      rw [byteV_append] at hj
      rw [Array.getElem?_append_left (by rw [List.size_toArray]; exact (List.getElem?_eq_some_iff.1 hj).1), List.getElem?_toArray]
      exact hj
    · rw [show (w.drew.alloc (.cells ((byteV l ++ byteV l2).toArray ++ Builtin.zeroCells (Value.int .u8 0).cells (cap' - (l.length + n2))) e)).cell? ⟨w.heap.size, j, none⟩ = _ from World.cell?_alloc_new w.drew _ _ j, Array.getElem?_eq_getElem (by rw [hsz]; exact hj)]
      rfl
    · exact (World.frozen?_alloc_mark w.drew _ e 0 0 j).trans (by simp)
  · have hr := run_append_room_src (P := P) w t tx ty e i ht hi g 0 l.length cap x n2 (byteV l2) (by rw [hz1]; exact hs) hroom (fun j hj => by rw [hz1, Nat.mul_one, Nat.zero_add]; rw [byteV_length] at hj; exact (h.there _ (by omega)).1) (fun j hj => by rw [hz1, Nat.mul_one, Nat.zero_add]; rw [byteV_length] at hj; exact (h.there _ (by omega)).2)
    rw [hz1, Nat.mul_one, Nat.zero_add] at hr
    have hT := setCells_turns g (byteV l2) l.length w
    have hin := World.cell?_setCells_in g (byteV l2) l.length w (fun j hj => by rw [byteV_length] at hj; exact (h.there _ (by omega)).1)
    have hout := World.cell?_setCells_out g (byteV l2) l.length w
    refine ⟨_, _, _, hr, ⟨h.base_, Nat.lt_of_lt_of_le h.lt hT.size, by rw [List.length_append]; omega, h.max, fun j u hj => ?_, fun j hj => ⟨?_, by rw [World.frozen?_setCells]; exact (h.there j hj).2⟩⟩, hT⟩
    · rw [byteV_append] at hj
      rcases Nat.lt_or_ge j l.length with hjl | hjl
      · rw [List.getElem?_append_left (by rw [byteV_length]; exact hjl)] at hj
        rw [hout ⟨g, j, none⟩ (fun _ _ => Or.inl hjl)]
        exact h.holds j u hj
      · rw [List.getElem?_append_right (by rw [byteV_length]; exact hjl), byteV_length] at hj
        obtain ⟨k, rfl⟩ : ∃ k, j = l.length + k := ⟨j - l.length, by omega⟩
        rw [Nat.add_sub_cancel_left] at hj
        obtain ⟨hk, e⟩ := List.getElem?_eq_some_iff.1 hj
        rw [hin k hk, e]
    · rcases Nat.lt_or_ge j l.length with hjl | hjl
      · rw [hout ⟨g, j, none⟩ (fun _ _ => Or.inl hjl)]; exact (h.there j hj).1
      · rcases Nat.lt_or_ge j (l.length + (byteV l2).length) with hj2 | hj2
        · obtain ⟨k, rfl⟩ : ∃ k, j = l.length + k := ⟨j - l.length, by omega⟩
          rw [hin k (by omega)]; rfl
        · rw [hout ⟨g, j, none⟩ (fun _ _ => Or.inr hj2)]; exact (h.there j hj).1
/-- .. for a walk -/
theorem wpList_append_buf {P : Program} {w : World} {ops : Array Oper} {rest : List Oper} {o : Oper} {a : Act} {Q : Exit → Act → World → Prop} (hgd : o.guard = none) (s x : Operand) (t tx : TypeId)
    (ho : o.op = .call { callee := .builtin .append, args := #[s, x], argTypes := #[t, tx] })
    (e : TypeId) (i : TypeInfo) (ht : P.underlying t = some (.slice e)) (hi : P.info? e = some i) (hz : i.zero = some (.int .u8 0)) (hz1 : i.size = 1) (hz2 : i.bytes = 1)
    {base g cap n : Nat} {l l2 : List UInt8} (hv : a.eval s = .slice (some ⟨g, 0, none⟩) n cap) (h : Buf w base g cap l) (hn : l.length = n) (xv : Value) (n2 : Nat) (hx : a.eval x = xv) (hs : Src P 1 tx xv n2 (byteV l2) w) (hlen : n + n2 ≤ 140737488355328)
    (hK : ∀ g' cap' w', Buf w' base g' cap' (l ++ l2) → Turns (fun k => k = g) w w' → wpList P ops Q rest (a.put o.dst (.slice (some ⟨g', 0, none⟩) (n + n2) cap')) w') : wpList P ops Q (o :: rest) a w := by
  refine wpList_plain hgd fun K hK' => ?_
  obtain ⟨g', cap', w', hrun, h1, h2⟩ := run_append_buf (P := P) w t tx o.type e i ht hi hz hz1 hz2 h hn xv n2 hs hlen
  unfold Oper.wp
  simp [execOp, ho, resolve, invoke, builtin, hv, hx, hrun, Result.andThen]
  exact hK' _ _ (hK g' cap' w' h1 h2)
/-- what is appended: a text -/
theorem src_text {P : Program} {tx : TypeId} (hk : P.underlying tx = some .string) (s : ByteArray) (w : World) : Src P 1 tx (.string s) s.size (byteV s.data.toList) w := Src.ofString w hk s
/-- what is appended: one byte in a new block -/
theorem src_one {P : Program} {tx e' : TypeId} (hk : P.underlying tx = some (.slice e')) (W : World) (c : UInt8) (t : Nat) (fr : Nat × Nat) {k : Nat} (hW : W.heap.size = k) : Src P 1 tx (.slice (some ⟨k, 0, none⟩) 1 1) 1 (byteV [c]) (W.alloc (.cells #[.int .u8 (c.toNat : Int)] t fr)) := by
  subst hW
  refine Src.ofSlice _ hk _ 1 1 _ rfl (fun j u hj => ?_) (byteV_one _)
  have e : j = 0 := by
    have := (List.getElem?_eq_some_iff.1 hj).1
    simp [byteV] at this; exact this
  subst e
  simp [byteV] at hj
  subst hj
  rw [Addr.add_lit, World.cell?_alloc_mark]
  rfl
end Go.Proofs.YtbcmlolaihnalacGreatDoor

/- Package request, walked: Write. -/
namespace Go.Proofs.YtbcmlolaihnalacGreatDoor
open Go.RowKit

/-- a field's line -/
def Rq.lineT (p : ByteArray × ByteArray) : List UInt8 := (Fd.text p.1.data.toList p.2.data.toList).1 ++ [13, 10]
theorem Rq.lines_zero : ∀ l : List (ByteArray × ByteArray), (∀ p ∈ l, (Fd.text p.1.data.toList p.2.data.toList).2 = 0) → Rq.lines (Rq.flB l) = .inr (l.flatMap Rq.lineT)
  | [], _ => rfl
  | p :: r, h => by
    have ih := Rq.lines_zero r (fun q hq => h q (List.mem_cons_of_mem _ hq))
    show Rq.lines ((p.1.data.toList, p.2.data.toList) :: Rq.flB r) = _
    rw [Rq.lines, if_neg (fun e => e (h p (List.mem_cons_self ..))), ih]
    simp [Rq.lineT]
theorem Rq.lines_bad : ∀ (l : List (ByteArray × ByteArray)) (i : Nat) (hi : i < l.length), (∀ p ∈ l.take i, (Fd.text p.1.data.toList p.2.data.toList).2 = 0) → (Fd.text l[i].1.data.toList l[i].2.data.toList).2 ≠ 0 → Rq.lines (Rq.flB l) = .inl (Fd.text l[i].1.data.toList l[i].2.data.toList).2
  | p :: r, 0, _, _, hc => by
    show Rq.lines ((p.1.data.toList, p.2.data.toList) :: Rq.flB r) = _
    have hc' : (Fd.text p.1.data.toList p.2.data.toList).2 ≠ 0 := hc
    rw [Rq.lines, if_pos hc']; rfl
  | p :: r, i + 1, hi, h, hc => by
    have ih := Rq.lines_bad r i (by simpa using hi) (fun q hq => h q (by rw [List.take_succ_cons]; exact List.mem_cons_of_mem _ hq)) hc
    show Rq.lines ((p.1.data.toList, p.2.data.toList) :: Rq.flB r) = _
    rw [Rq.lines, if_neg (fun e => e (h p (by rw [List.take_succ_cons]; exact List.mem_cons_self ..))), ih]
    rfl
/-- a head by its texts -/
def Rq.hdT (m t : ByteArray) (l : List (ByteArray × ByteArray)) : Rq.Hd := ⟨m.data.toList, t.data.toList, 0, Rq.flB l, 0⟩
theorem Rq.target_no (l : List UInt8) : Rq.isTarget l = false ↔ (l.head? ≠ some 47 ∨ 32 ∈ l ∨ 9 ∈ l ∨ Ch.isVisible l = false) := by
  have hb : Rq.blank l = true ↔ 32 ∈ l ∨ 9 ∈ l := by
    unfold Rq.blank
    rw [List.any_eq_true]
    constructor
    · rintro ⟨b, hb, e⟩
      simp at e
      rcases e with e | e
      · exact Or.inl (e ▸ hb)
      · exact Or.inr (e ▸ hb)
    · rintro (h | h)
      · exact ⟨32, h, rfl⟩
      · exact ⟨9, h, rfl⟩
  unfold Rq.isTarget
  rw [Bool.and_eq_false_iff, Bool.and_eq_false_iff, decide_eq_false_iff_not, Bool.not_eq_false', hb]
  constructor
  · rintro (h | (h | h) | h)
    · exact Or.inl h
    · exact Or.inr (Or.inl h)
    · exact Or.inr (Or.inr (Or.inl h))
    · exact Or.inr (Or.inr (Or.inr h))
  · rintro (h | h | h | h)
    · exact Or.inl h
    · exact Or.inr (Or.inl (Or.inl h))
    · exact Or.inr (Or.inl (Or.inr h))
    · exact Or.inr (Or.inr h)
/-- a request's text, by why it can't be written -/
theorem Rq.text_by (m t : ByteArray) (l : List (ByteArray × ByteArray)) (body : List UInt8) (F : Nat) (hF : F = Rq.faultN (Ch.isToken m.data.toList) (Rq.isTarget t.data.toList) (m.data.toList.length + t.data.toList.length + 10) body.length l.length (Fd.vals bSize l).length (Fd.vals bCode l).length (Fd.vals bHost l).length) :
    (F ≠ 0 → Rq.text (Rq.hdT m t l) body = ([], F)) ∧ (F = 0 → body.length ≤ 4000 ∧ l.length ≤ 15 ∧ Rq.text (Rq.hdT m t l) body = match Rq.lines (Rq.flB l) with
      | .inl c => ([], c)
      | .inr s => (m.data.toList ++ 32 :: (t.data.toList ++ 32 :: (Rq.v11 ++ 13 :: 10 :: (s ++ (Rq.nCL ++ [58, 32] ++ Ch.decF 8 body.length ++ 13 :: 10 :: 13 :: 10 :: body)))), 0)) := by
  have ev : ∀ (b : ByteArray), Ch.lower b.data.toList = b.data.toList → Rq.vals (Rq.flB l) b.data.toList = Rq.lists (Fd.vals b l) := fun b hb => Rq.vals_flB l b hb
  have e1 : Rq.vals (Rq.flB l) Rq.nHost = Rq.lists (Fd.vals bHost l) := ev bHost (by decide)
  have e2 : Rq.vals (Rq.flB l) Rq.nSize = Rq.lists (Fd.vals bSize l) := ev bSize (by decide)
  have e3 : Rq.vals (Rq.flB l) Rq.nCode = Rq.lists (Fd.vals bCode l) := ev bCode (by decide)
  have hln : ∀ v : List ByteArray, Rq.lists v ≠ [] ↔ 0 < v.length := fun v => by
    have : (Rq.lists v).length = v.length := by simp [Rq.lists]
    rw [← this]; exact List.length_pos_iff.symm
  have hfl : (Rq.flB l).length = l.length := by simp [Rq.flB]
  unfold Rq.text Rq.hdT
  simp only [e1, e2, e3, hfl]
  unfold Rq.faultN at hF
  by_cases h1 : Ch.isToken m.data.toList = false
  · rw [if_pos h1] at hF; rw [if_pos h1]; subst hF; exact ⟨fun _ => rfl, fun e => by omega⟩
  rw [if_neg h1] at hF; rw [if_neg h1]
  by_cases h2 : Rq.isTarget t.data.toList = false
  · rw [if_pos h2] at hF; rw [if_pos ((Rq.target_no _).1 h2)]; subst hF; exact ⟨fun _ => rfl, fun e => by omega⟩
  rw [if_neg h2] at hF; rw [if_neg (fun e => h2 ((Rq.target_no _).2 e))]
  by_cases h3 : 200 < m.data.toList.length + t.data.toList.length + 10 ∨ 4000 < body.length
  · rw [if_pos h3] at hF; rw [if_pos h3]; subst hF; exact ⟨fun _ => rfl, fun e => by omega⟩
  rw [if_neg h3] at hF; rw [if_neg h3]
  by_cases h4 : 15 < l.length
  · rw [if_pos h4] at hF; rw [if_pos (by omega)]; subst hF; exact ⟨fun _ => rfl, fun e => by omega⟩
  rw [if_neg h4] at hF; rw [if_neg (by omega)]
  by_cases h5 : 0 < (Fd.vals bSize l).length ∨ 0 < (Fd.vals bCode l).length
  · rw [if_pos h5] at hF
    rw [if_pos (by rcases h5 with h | h; exact Or.inl ((hln _).2 h); exact Or.inr ((hln _).2 h))]
    subst hF; exact ⟨fun _ => rfl, fun e => by omega⟩
  rw [if_neg h5] at hF
  rw [if_neg (fun e => h5 (by rcases e with e | e; exact Or.inl ((hln _).1 e); exact Or.inr ((hln _).1 e)))]
  have hll : (Rq.lists (Fd.vals bHost l)).length = (Fd.vals bHost l).length := by simp [Rq.lists]
  rw [hll]
  by_cases h6 : (Fd.vals bHost l).length ≠ 1
  · rw [if_pos h6] at hF; rw [if_pos h6]; subst hF; exact ⟨fun _ => rfl, fun e => by omega⟩
  rw [if_neg h6] at hF; rw [if_neg h6]; subst hF
  refine ⟨fun e => absurd rfl e, fun _ => ⟨by omega, by omega, ?_⟩⟩
  cases Rq.lines (Rq.flB l) <;> rfl
end Go.Proofs.YtbcmlolaihnalacGreatDoor

/- Package request, walked: Write. -/
namespace Go.Proofs.YtbcmlolaihnalacGreatDoor
open Go.RowKit

/-- what Write comes to -/
inductive WrOut (w : World) (h : Rq.Hd) (body : List UInt8) (e : Ending) (w' : World) : Prop
  | bad (c : Nat) (hc : c ≠ 0) (he : e = .returned (.tuple #[.slice none 0 0, .int .i64 (c : Int)])) (ht : Rq.text h body = ([], c)) (hB : Below w.heap.size w w')
  | ok (g cap n : Nat) (he : e = .returned (.tuple #[.slice (some ⟨g, 0, none⟩) n cap, .int .i64 0])) (hn : n = (Rq.text h body).1.length) (ht : (Rq.text h body).2 = 0) (hO : Buf w' w.heap.size g cap (Rq.text h body).1) (hB : Below w.heap.size w w')

set_option maxRecDepth 100000 in
set_option maxHeartbeats 2000000 in
/-- a code that the fields' texts have no part in -/
theorem write_fault (w : World) (m t : ByteArray) (mi ln : Int) (l : List (ByteArray × ByteArray)) (fo bo : Option Addr) (fcap nf bcap nb : Nat) (body : List UInt8) (hl : IsV w fo fcap nf (pairV l)) (hn : l.length = nf) (hN : nf ≤ 1000000) (hs : ∀ p ∈ l, p.1.size ≤ 2000 ∧ p.2.size ≤ 2000) (hm : m.size + t.size ≤ 10000) (hb : body.length = nb)
    (hF : Rq.faultN (Ch.isToken m.data.toList) (Rq.isTarget t.data.toList) (m.data.toList.length + t.data.toList.length + 10) nb nf (Fd.vals bSize l).length (Fd.vals bCode l).length (Fd.vals bHost l).length ≠ 0) :
    Calls Tryz.prog 15 #[.agg #[.string m, .string t, .int .i64 mi, .slice fo nf fcap, .int .i64 ln], .slice bo nb bcap] w fun e w' => WrOut w (Rq.hdT m t l) body e w' := by
  subst hn; subst hb
  have hl2 : ∀ s : ByteArray, s.data.toList.length = s.size := fun s => by rw [Array.length_toList]; rfl
  have hT := (Rq.text_by m t l body _ rfl).1 hF
  have hb0 : Below w.heap.size w (w.alloc (.cells #[.string m, .string t, .int .i64 mi, .slice fo l.length fcap, .int .i64 ln] 36)) := (Below.refl _ _).alloc (Nat.le_refl _) _
  have hb1 : Below w.heap.size w ((w.alloc (.cells #[.string m, .string t, .int .i64 mi, .slice fo l.length fcap, .int .i64 ln] 36)).alloc (.cells #[.string m, .string t, .string ⟨#[72, 84, 84, 80, 47, 49, 46, 49]⟩] 9)) := hb0.trans ((Below.refl _ _).alloc hb0.size _)
  have HJ := Hid.mk' (join_three m t ⟨#[72, 84, 84, 80, 47, 49, 46, 49]⟩ (w.heap.size + 1) ((w.alloc (.cells #[.string m, .string t, .int .i64 mi, .slice fo l.length fcap, .int .i64 ln] 36)).alloc (.cells #[.string m, .string t, .string ⟨#[72, 84, 84, 80, 47, 49, 46, 49]⟩] 9)) (by rw [World.cell?_alloc_at _ _ _ _ (by simp)]; rfl) (by rw [World.cell?_alloc_at _ _ _ _ (by simp)]; rfl) (by rw [World.cell?_alloc_at _ _ _ _ (by simp)]; rfl) (by show m.size + t.size + 8 ≤ _; omega))
  have hfs : (⟨(m.data.toList ++ 32 :: (t.data.toList ++ 32 :: (⟨#[72, 84, 84, 80, 47, 49, 46, 49]⟩ : ByteArray).data.toList)).toArray⟩ : ByteArray).size = m.data.toList.length + t.data.toList.length + 10 := by
    show (m.data.toList ++ 32 :: (t.data.toList ++ 32 :: [72, 84, 84, 80, 47, 49, 46, 49])).toArray.size = _
    rw [List.size_toArray]; simp; omega
  generalize (⟨(m.data.toList ++ 32 :: (t.data.toList ++ 32 :: (⟨#[72, 84, 84, 80, 47, 49, 46, 49]⟩ : ByteArray).data.toList)).toArray⟩ : ByteArray) = first at HJ hfs
  have HFl := Hid.mk' (fun W (hW : Below w.heap.size w W) => fault_any W m t first mi ln l fo bo fcap l.length body.length bcap (hl.stay hW) rfl hN hs (by omega) (by omega))
  simp only [hfs] at HFl
  have hcx : ∀ j, j < 5 → (w.alloc (.cells #[.string m, .string t, .int .i64 mi, .slice fo l.length fcap, .int .i64 ln] 36)).cell? ⟨w.heap.size, j, none⟩ = (#[Value.string m, .string t, .int .i64 mi, .slice fo l.length fcap, .int .i64 ln] : Array Value)[j]? := fun j _ => World.cell?_alloc_mark w _ _ _ j
  have HX : Hid (∀ W, Below (w.alloc (.cells #[.string m, .string t, .int .i64 mi, .slice fo l.length fcap, .int .i64 ln] 36)).heap.size (w.alloc (.cells #[.string m, .string t, .int .i64 mi, .slice fo l.length fcap, .int .i64 ln] 36)) W → W.cell? ⟨w.heap.size, 0, none⟩ = some (.string m) ∧ W.cell? ⟨w.heap.size, 1, none⟩ = some (.string t) ∧ W.cell? ⟨w.heap.size, 2, none⟩ = some (.int .i64 mi) ∧ W.cell? ⟨w.heap.size, 3, none⟩ = some (.slice fo l.length fcap) ∧ W.cell? ⟨w.heap.size, 4, none⟩ = some (.int .i64 ln)) := fun W hW =>
    ⟨(hW.cell (p := ⟨w.heap.size, 0, none⟩) (by simp)).trans (hcx 0 (by omega)), (hW.cell (p := ⟨w.heap.size, 1, none⟩) (by simp)).trans (hcx 1 (by omega)), (hW.cell (p := ⟨w.heap.size, 2, none⟩) (by simp)).trans (hcx 2 (by omega)), (hW.cell (p := ⟨w.heap.size, 3, none⟩) (by simp)).trans (hcx 3 (by omega)), (hW.cell (p := ⟨w.heap.size, 4, none⟩) (by simp)).trans (hcx 4 (by omega))⟩
  have HT := Hid.mk' hT; have HB1 := Hid.mk' hb1; have HFn := Hid.mk' hF
  generalize Rq.faultN (Ch.isToken m.data.toList) (Rq.isTarget t.data.toList) (m.data.toList.length + t.data.toList.length + 10) body.length l.length (Fd.vals bSize l).length (Fd.vals bCode l).length (Fd.vals bHost l).length = F at *
  have tF : ((F : Int) != 0) = true := by rw [bne_iff_ne]; omega
  clear hl hs hT hb0 hb1 hcx hfs hF hl2
  go_enter Tryz.func15, Tryz.ntmps15
  go_wp2_with fail
  refine HJ.out.mono ?_
  rintro e w1 ⟨rfl, hb⟩
  have hB1 := HB1.out.trans (hb.mono (by simp; omega))
  have hBb : Below (w.alloc (.cells #[.string m, .string t, .int .i64 mi, .slice fo l.length fcap, .int .i64 ln] 36)).heap.size (w.alloc (.cells #[.string m, .string t, .int .i64 mi, .slice fo l.length fcap, .int .i64 ln] 36)) w1 := ((Below.refl _ _).alloc (Nat.le_refl _) _).trans (hb.mono (by simp))
  obtain ⟨x0, x1, x2, x3, x4⟩ := HX.out w1 hBb
  have HBw := Hid.mk' hB1
  clear hb hB1 hBb
  go_wp2_with fail
  refine (HFl.out w1 HBw.out).mono ?_
  rintro e w2 ⟨rfl, hb2⟩
  have HB2 := Hid.mk' (then_ HBw.out hb2)
  clear hb2
  go_wp2
  go_ret2
  exact .bad F HFn.out rfl HT.out HB2.out
end Go.Proofs.YtbcmlolaihnalacGreatDoor
