/- Small texts, one behind the other: PkB, PkC, PkD, PkE, PkG, PlainKD, GtC. -/
import Derived.Test.YtjpenioloeplgadGreatDoorPkA
import Derived.Test.YtjpenioloeplgadGreatDoorPk16
import Derived.Test.YtjpenioloeplgadGreatDoorPk6
import Derived.Test.YtjpenioloeplgadGreatDoorPk18
import Derived.Test.YtjpenioloeplgadGreatDoorMemK
import Derived.Test.YtjpenioloeplgadGreatDoorPk12
import Derived.Deep.RegionHeld3
import Derived.Test.YtjpenioloeplgadGreatDoorPk10
import Derived.Test.YtjpenioloeplgadGreatDoorPk25
import Derived.Test.YtjpenioloeplgadGreatDoorPk22
import Derived.Test.YtjpenioloeplgadGreatDoorFlB
import Derived.Deep.DeepCutAuto
import Derived.Test.YtjpenioloeplgadGreatDoorFmMk
import Derived.Test.YtjpenioloeplgadGreatDoorMemS
/- Package pack, walked: fault, disposition. -/
namespace Go.Proofs.YtjpenioloeplgadGreatDoor
open Go.RowKit

/-- a part, in plain words -/
def Pk.pp (p : Fm.Pt) : Pk.P := (⟨p.name.data.toList, p.file.data.toList, p.type.data.toList⟩, p.bytes)
theorem Pk.pt_pp (p : Fm.Pt) : Pk.pt (Pk.pp p) = p := by
  obtain ⟨a, b, c, d⟩ := p
  cases a; cases b; cases c
  simp [Pk.pt, Pk.pp]

set_option maxHeartbeats 2000000 in
set_option maxRecDepth 100000 in
theorem fault_any (p : Fm.Pt) (bo : Option Addr) (bcap n : Nat) (mk : ByteArray) (b : List UInt8) (w : World) (hB : IsB w bo bcap p.bytes) (hn : p.bytes.length = n) (hn2 : n ≤ 100000) (hk : mk.data.toList = Fm.mark b) (h1 : mk.size ≤ 100000) (hf : p.file.size ≤ 100000) (mx : Int) (hm : w.cell? ⟨0, 0, none⟩ = some (.int .i64 mx)) :
    Calls Tryz.prog 39 #[.agg #[.string p.name, .string p.file, .string p.type, .slice bo n bcap], .string mk] w fun e w' => e = .returned (.int .i64 (Pk.fault b (Pk.pp p) : Int)) ∧ Below w.heap.size w w' := by
  have hO := OneAt.made w #[.string p.name, .string p.file, .string p.type, .slice bo n bcap] 27
  have hk0 : 0 < mk.size := by rw [← Ch.len_list, hk]; simp [Fm.mark]
  have HC := Hid.mk' (clashes_any p.bytes bo bcap n mk _ (hB.stay hO.below) hn hn2 hk0 h1 mx ((hO.below.cell (World.block_lt_of_cell? w _ hm)).trans hm))
  rw [hk] at HC
  have HO := Hid.mk' hO
  have c3 : (w.alloc (.cells #[.string p.name, .string p.file, .string p.type, .slice bo n bcap] 27)).cell? ⟨w.heap.size, 3, none⟩ = some (.slice bo n bcap) := hO.cell 3
  clear hO hm hB hk hk0
  cases hcl : Pk.clash b p.bytes with
  | true =>
    have HF : Hid (Pk.fault b (Pk.pp p) = 15) := by unfold Hid Pk.fault; exact if_pos hcl
    have hcl' : (Fm.find (Fm.mark b) (13 :: 10 :: p.bytes)).isSome = true := hcl
    rw [hcl'] at HC
    clear hcl hcl'
    go_enter Tryz.func39, Tryz.ntmps39
    go_wp2_with fail
    refine HC.out.mono ?_
    rintro e w1 ⟨rfl, hb1⟩
    have HB1 := Hid.mk' (HO.out.stay hb1).below
    clear hb1
    go_wp2
    go_ret
    exact ⟨by rw [HF.out]; rfl, HB1.out⟩
  | false =>
    have hcl' : (Fm.find (Fm.mark b) (13 :: 10 :: p.bytes)).isSome = false := hcl
    rw [hcl'] at HC
    by_cases hfe : p.file.data.toList = []
    · have HF : Hid (Pk.fault b (Pk.pp p) = 0) := by unfold Hid Pk.fault; rw [if_neg (by show ¬ Pk.clash b p.bytes = true; rw [hcl]; simp), if_neg (fun e => e.1 hfe)]
      have te : (p.file.toList == []) = true := by rw [beq_iff_eq, Lib.toList_data]; exact hfe
      clear hcl hcl' hfe
      go_enter Tryz.func39, Tryz.ntmps39
      go_wp2_with fail
      refine HC.out.mono ?_
      rintro e w1 ⟨rfl, hb1⟩
      have hO1 := HO.out.stay hb1
      have HB1 := Hid.mk' hO1.below
      have d1 : w1.cell? ⟨w.heap.size, 1, none⟩ = some (.string p.file) := hO1.cell 1
      clear hb1 hO1
      go_wp2
      go_quiet (fail)
      go_wp2
      go_ret
      exact ⟨by rw [HF.out]; rfl, then_ HB1.out (drewN_below ⟨_, rfl⟩)⟩
    · have te : (p.file.toList == []) = false := by rw [beq_eq_false_iff_ne, Lib.toList_data]; exact hfe
      have HSf : Hid (∀ W, Calls Tryz.prog 11 #[.string p.file] W fun e w' => e = .returned (.string ⟨(Fm.safe p.file.data.toList).toArray⟩) ∧ Below W.heap.size W w') := fun W => safe_any p.file W (by omega)
      obtain ⟨c, hc, hF⟩ : ∃ c, ((⟨(Fm.safe p.file.data.toList).toArray⟩ : ByteArray).toList == p.file.toList) = c ∧ Pk.fault b (Pk.pp p) = if c = true then 0 else 6 := by
        refine ⟨_, rfl, ?_⟩
        have e1 : ((⟨(Fm.safe p.file.data.toList).toArray⟩ : ByteArray).toList == p.file.toList) = decide (Fm.safe p.file.data.toList = p.file.data.toList) := by
          rw [Lib.toList_data, Lib.toList_data, Bool.eq_iff_iff]; simp
        rw [e1]
        unfold Pk.fault
        rw [if_neg (by show ¬ Pk.clash b p.bytes = true; rw [hcl]; simp)]
        by_cases hs : Fm.safe p.file.data.toList = p.file.data.toList
        · rw [if_neg (fun e => e.2 hs), if_pos (decide_eq_true hs)]
        · rw [if_pos ⟨hfe, hs⟩, if_neg (by rw [decide_eq_false hs]; simp)]
      have HF := Hid.mk' hF
      generalize (⟨(Fm.safe p.file.data.toList).toArray⟩ : ByteArray) = sf at *
      clear hcl hcl' hfe hF
      go_enter Tryz.func39, Tryz.ntmps39
      go_wp2_with fail
      refine HC.out.mono ?_
      rintro e w1 ⟨rfl, hb1⟩
      have hO1 := HO.out.stay hb1
      have HO1 := Hid.mk' hO1
      have d1 : w1.cell? ⟨w.heap.size, 1, none⟩ = some (.string p.file) := hO1.cell 1
      clear hb1 hO1
      go_upto_region 3 with fail
      go_region_held3 (fun w' => w'.cell? ⟨w.heap.size, 1, none⟩ = some (.string p.file)) (first | go_keep | exact HK2.out) (first
        | (go_at_call 11; refine (HSf.out _).mono ?_; rintro e w2 ⟨rfl, hb2⟩; have HO2 := Hid.mk' ((HO1.out.stay (below_drew _ _)).stay hb2); have HK2 : Hid (w2.cell? ⟨w.heap.size, 1, none⟩ = some (.string p.file)) := HO2.out.cell 1; clear hb2))
      all_goals
        cases c
        all_goals
          go_wp2
          go_ret
          exact ⟨by rw [HF.out]; rfl, HO2.out.below⟩
/-- the parameters, as they lie in memory -/
def Pk.dispT (p : Fm.Pt) : List (ByteArray × ByteArray) := ((⟨#[110, 97, 109, 101]⟩ : ByteArray), p.name) :: if p.file.data.toList = [] then [] else [((⟨#[102, 105, 108, 101, 110, 97, 109, 101]⟩ : ByteArray), p.file)]
theorem Pk.dispT_disp (p : Fm.Pt) : parL (Pk.dispT p) = Pk.disp (Pk.pp p).1 := by
  unfold Pk.dispT Pk.disp Pk.pp parL
  simp only
  by_cases h : p.file.data.toList = []
  · rw [if_pos h, if_pos h]; rfl
  · rw [if_neg h, if_neg h]; rfl
theorem info_par : (Tryz.prog.info? 97).map (fun i => (i.zero, i.size, i.bytes)) = some (some (.agg #[.string ⟨#[]⟩, .string ⟨#[]⟩]), 2, 32) := by kernel_rfl
theorem one_own (W : World) (x y : ByteArray) (t : Nat) {k : Nat} (hk : W.heap.size = k) : OwnV (W.alloc (.cells #[.string x, .string y] t)) k t 2 (some ⟨k, 0, none⟩) 1 1 (pairV [(x, y)]) := by
  subst hk
  exact ⟨rfl, .inr ⟨W.heap.size, 1, _, rfl, Nat.le_refl _, heap_alloc_new W _, Nat.le_refl _, by decide, rfl, rfl⟩⟩
end Go.Proofs.YtjpenioloeplgadGreatDoor

/- Package pack, walked: disposition. -/
namespace Go.Proofs.YtjpenioloeplgadGreatDoor
open Go.RowKit

theorem pk_stay {W W' : World} {g : Nat} {o : Obj} (h : W.heap[g]? = some o) (hb : Below W.heap.size W W') : W'.heap[g]? = some o := (hb.block g (Array.getElem?_eq_some_iff.1 h).1).trans h
/-- what disposition keeps: the part, the answer's place, the value -/
structure DsAt (w : World) (p : Fm.Pt) (bo : Option Addr) (n bcap : Nat) (ao : Option Addr) (k cap : Nat) (l : List (ByteArray × ByteArray)) (W : World) : Prop where
  part : W.heap[w.heap.size]? = some (.cells #[.string p.name, .string p.file, .string p.type, .slice bo n bcap] 27 (0, 0))
  res : W.heap[w.heap.size + 1]? = some (.cells #[.string ⟨#[]⟩, .slice none 0 0] 61 (0, 0))
  med : W.heap[w.heap.size + 3]? = some (.cells #[.string ⟨#[102, 111, 114, 109, 45, 100, 97, 116, 97]⟩, .slice ao k cap] 61 (0, 0))
  row : OwnV W (w.heap.size + 2) 97 2 ao cap k (pairV l)
  far : ∀ a, ao = some a → a.block ≠ w.heap.size + 3
  lt : w.heap.size + 3 < W.heap.size
  below : Below w.heap.size w W
theorem DsAt.cells {w W : World} {p : Fm.Pt} {bo : Option Addr} {n bcap : Nat} {ao : Option Addr} {k cap : Nat} {l : List (ByteArray × ByteArray)} (h : DsAt w p bo n bcap ao k cap l W) :
    W.cell? ⟨w.heap.size, 1, none⟩ = some (.string p.file) ∧ W.cell? ⟨w.heap.size + 1, 0, none⟩ = some (.string ⟨#[]⟩) ∧ W.cell? ⟨w.heap.size + 1, 1, none⟩ = some (.slice none 0 0) ∧ W.frozen? ⟨w.heap.size + 1, 0, none⟩ = false ∧ W.frozen? ⟨w.heap.size + 1, 1, none⟩ = false ∧
    W.cell? ⟨w.heap.size + 3, 0, none⟩ = some (.string ⟨#[102, 111, 114, 109, 45, 100, 97, 116, 97]⟩) ∧ W.cell? ⟨w.heap.size + 3, 1, none⟩ = some (.slice ao k cap) ∧ W.frozen? ⟨w.heap.size + 3, 1, none⟩ = false :=
  ⟨cell_of_row W _ 1 _ _ _ h.part, cell_of_row W _ 0 _ _ _ h.res, cell_of_row W _ 1 _ _ _ h.res, frozen_of_row W _ 0 _ _ h.res, frozen_of_row W _ 1 _ _ h.res, cell_of_row W _ 0 _ _ _ h.med, cell_of_row W _ 1 _ _ _ h.med, frozen_of_row W _ 1 _ _ h.med⟩
theorem DsAt.start (w : World) (p : Fm.Pt) (bo : Option Addr) (n bcap : Nat) : DsAt w p bo n bcap (some ⟨w.heap.size + 2, 0, none⟩) 1 1 [((⟨#[110, 97, 109, 101]⟩ : ByteArray), p.name)]
    ((((w.alloc (.cells #[.string p.name, .string p.file, .string p.type, .slice bo n bcap] 27)).alloc (.cells #[.string ⟨#[]⟩, .slice none 0 0] 61)).alloc (.cells #[.string ⟨#[110, 97, 109, 101]⟩, .string p.name] 97)).alloc (.cells #[.string ⟨#[102, 111, 114, 109, 45, 100, 97, 116, 97]⟩, .slice (some ⟨w.heap.size + 2, 0, none⟩) 1 1] 61)) := by
  generalize h1 : (w.alloc (.cells #[.string p.name, .string p.file, .string p.type, .slice bo n bcap] 27)) = w1
  have s1 : w1.heap.size = w.heap.size + 1 := by rw [← h1]; simp
  have e1 : w1.heap[w.heap.size]? = some (.cells #[.string p.name, .string p.file, .string p.type, .slice bo n bcap] 27 (0, 0)) := by rw [← h1]; exact heap_alloc_new w _
  have b1 : Below w.heap.size w w1 := by rw [← h1]; exact (Below.refl _ _).alloc (Nat.le_refl _) _
  generalize h2 : (w1.alloc (.cells #[.string ⟨#[]⟩, .slice none 0 0] 61)) = w2
  have s2 : w2.heap.size = w.heap.size + 2 := by rw [← h2]; simp [s1]
  have b2 : Below w1.heap.size w1 w2 := by rw [← h2]; exact (Below.refl _ _).alloc (Nat.le_refl _) _
  have e2 : w2.heap[w.heap.size + 1]? = some (.cells #[.string ⟨#[]⟩, .slice none 0 0] 61 (0, 0)) := by rw [← h2, ← s1]; exact heap_alloc_new w1 _
  have O3 := one_own w2 (⟨#[110, 97, 109, 101]⟩ : ByteArray) p.name 97 s2
  generalize h3 : (w2.alloc (.cells #[.string ⟨#[110, 97, 109, 101]⟩, .string p.name] 97)) = w3 at *
  have s3 : w3.heap.size = w.heap.size + 3 := by rw [← h3]; simp [s2]
  have b3 : Below w2.heap.size w2 w3 := by rw [← h3]; exact (Below.refl _ _).alloc (Nat.le_refl _) _
  have b4 : Below w3.heap.size w3 (w3.alloc (.cells #[.string ⟨#[102, 111, 114, 109, 45, 100, 97, 116, 97]⟩, .slice (some ⟨w.heap.size + 2, 0, none⟩) 1 1] 61)) := (Below.refl _ _).alloc (Nat.le_refl _) _
  refine ⟨pk_stay (pk_stay (pk_stay e1 b2) b3) b4, pk_stay (pk_stay e2 b3) b4, by rw [← s3]; exact heap_alloc_new w3 _, O3.stay b4, fun a e => ?_, by simp [s3], then_ (then_ (then_ b1 b2) b3) b4⟩
  injection e with e
  subst e
  show w.heap.size + 2 ≠ w.heap.size + 3
  omega
/-- one parameter more, laid into the value -/
theorem DsAt.more {w W W3 w4 : World} {p : Fm.Pt} {bo : Option Addr} {n bcap : Nat} {ao a4 : Option Addr} {k cap c4 : Nat} {l : List (ByteArray × ByteArray)} {x y : ByteArray} (h : DsAt w p bo n bcap ao k cap l W) (hb : Below W.heap.size W W3) (hO : OwnV w4 (w.heap.size + 2) 97 2 a4 c4 (k + 1) (pairV l ++ [.string x, .string y])) (hG : W3.grownBy w4 (blockOf ao)) (hat : blockOf a4 = blockOf ao ∨ blockOf a4 = some W3.heap.size) :
    W3.heap.size ≤ w4.heap.size ∧ w4.cell? ⟨w.heap.size + 3, 1, none⟩ = some (.slice ao k cap) ∧ w4.frozen? ⟨w.heap.size + 3, 1, none⟩ = false ∧ DsAt w p bo n bcap a4 (k + 1) c4 (l ++ [(x, y)]) (w4.setCell ⟨w.heap.size + 3, 1, none⟩ (.slice a4 (k + 1) c4)) := by
  have hT : Turns (fun q => blockOf ao = some q) W3 w4 := Turns.of_grown hG (fun q e => e)
  have hS : Turns (fun q => q = w.heap.size + 3) w4 (w4.setCell ⟨w.heap.size + 3, 1, none⟩ (.slice a4 (k + 1) c4)) := setCells_turns (w.heap.size + 3) [.slice a4 (k + 1) c4] 1 w4
  have hlo : ∀ q, blockOf ao = some q → w.heap.size + 2 ≤ q := fun q e => by
    cases ao with
    | none => cases e
    | some a => injection e with e; subst e; exact (h.row.block a rfl).1
  have hne : blockOf ao ≠ some (w.heap.size + 3) := fun e => by
    cases ao with
    | none => cases e
    | some a => injection e with e; exact h.far a rfl e
  have m4 := hT.row (pk_stay h.med hb) hne
  have h3 := hb.size
  have h4 := h.lt
  refine ⟨hT.size, cell_of_row w4 _ 1 _ _ _ m4, frozen_of_row w4 _ 1 _ _ m4, ⟨?_, ?_, ?_, ?_, ?_, ?_, ?_⟩⟩
  · exact hS.row (hT.row (pk_stay h.part hb) (fun e => by have := hlo _ e; omega)) (by omega)
  · exact hS.row (hT.row (pk_stay h.res hb) (fun e => by have := hlo _ e; omega)) (by omega)
  · rw [heap_setCell_same w4 (w.heap.size + 3) 1 _ _ _ m4]; rfl
  · rw [pairV_append]
    exact hO.turns hS (fun a e f => by
      rcases hat with g | g
      · exact hne (by rw [← g, e]; show some a.block = _; rw [f])
      · rw [e] at g; injection g with g; rw [f] at g; omega)
  · intro a e f
    rcases hat with g | g
    · exact hne (by rw [← g, e]; show some a.block = _; rw [f])
    · rw [e] at g; injection g with g; rw [f] at g; omega
  · have := hT.size
    have hz : (w4.setCell ⟨w.heap.size + 3, 1, none⟩ (.slice a4 (k + 1) c4)).heap.size = w4.heap.size := Nat.le_antisymm (by simp) hS.size
    omega
  · refine ((then_ h.below hb).trans (hT.below (fun q e => by have := hlo q e; omega) (by have := h.below.size; omega))).trans (hS.below (fun q e => by omega) (by have := hT.size; have := h.below.size; omega))

set_option maxHeartbeats 2000000 in
set_option maxRecDepth 100000 in
theorem disposition_any' (p : Fm.Pt) (bo : Option Addr) (bcap n : Nat) (w : World) :
    Calls Tryz.prog 64 #[.agg #[.string p.name, .string p.file, .string p.type, .slice bo n bcap]] w fun e w' => ∃ ao cap, e = .returned (.agg #[.string ⟨#[102, 111, 114, 109, 45, 100, 97, 116, 97]⟩, .slice ao (Pk.dispT p).length cap]) ∧ IsV w' ao cap (Pk.dispT p).length (pairV (Pk.dispT p)) ∧ Below w.heap.size w w' := by
  have HD := Hid.mk' (DsAt.start w p bo n bcap)
  have k0 : (w.alloc (.cells #[.string p.name, .string p.file, .string p.type, .slice bo n bcap] 27)).cell? ⟨w.heap.size, 0, none⟩ = some (.string p.name) := World.cell?_alloc_mark w _ _ _ 0
  obtain ⟨i0, hi0, hz0, hz1, hz2⟩ := info_parts info_par
  have Hi := Hid.mk' hi0; have Hz0 := Hid.mk' hz0; have Hz1 := Hid.mk' hz1; have Hz2 := Hid.mk' hz2
  clear hi0 hz0 hz1 hz2
  by_cases hfe : p.file.data.toList = []
  · have te : (p.file.toList == []) = true := by rw [beq_iff_eq, Lib.toList_data]; exact hfe
    have HL : Hid (Pk.dispT p = [((⟨#[110, 97, 109, 101]⟩ : ByteArray), p.name)]) := by unfold Hid Pk.dispT; rw [if_pos hfe]
    clear hfe
    go_enter Tryz.func64, Tryz.ntmps64
    go_upto_region 2 with fail
    generalize hW : ((((w.alloc (.cells #[.string p.name, .string p.file, .string p.type, .slice bo n bcap] 27)).alloc (.cells #[.string ⟨#[]⟩, .slice none 0 0] 61)).alloc (.cells #[.string ⟨#[110, 97, 109, 101]⟩, .string p.name] 97)).alloc (.cells #[.string ⟨#[102, 111, 114, 109, 45, 100, 97, 116, 97]⟩, .slice (some ⟨w.heap.size + 2, 0, none⟩) 1 1] 61)) = W at *
    clear hW k0
    obtain ⟨x1, r0, r1, q0, q1, m0, m1, m2⟩ := HD.out.cells
    go_wp2
    refine bodyPost_ret (v := .agg #[.string ⟨#[102, 111, 114, 109, 45, 100, 97, 116, 97]⟩, .slice (some ⟨w.heap.size + 2, 0, none⟩) 1 1]) (by simp [results, Tryz.results64, go_sem, r0, r1]) rfl ⟨some ⟨w.heap.size + 2, 0, none⟩, 1, by rw [HL.out]; rfl, ?_, ?_⟩
    · rw [HL.out]
      refine IsV.turns (S := fun q => q = w.heap.size + 1) (IsV.turns (S := fun q => q = w.heap.size + 1) HD.out.row.isV (Turns.setCell _ _ _ _ rfl) (fun a e f => ?_)) (Turns.setCell _ _ _ _ rfl) (fun a e f => ?_) <;> (have := (HD.out.row.block a e).1; omega)
    · exact (HD.out.below.setCell (show w.heap.size ≤ w.heap.size + 1 by omega) _).setCell (show w.heap.size ≤ w.heap.size + 1 by omega) _
  · have te : (p.file.toList == []) = false := by rw [beq_eq_false_iff_ne, Lib.toList_data]; exact hfe
    have HL : Hid (Pk.dispT p = [((⟨#[110, 97, 109, 101]⟩ : ByteArray), p.name)] ++ [((⟨#[102, 105, 108, 101, 110, 97, 109, 101]⟩ : ByteArray), p.file)]) := by unfold Hid Pk.dispT; rw [if_neg hfe]; rfl
    clear hfe
    go_enter Tryz.func64, Tryz.ntmps64
    go_upto_region 2 with fail
    generalize hW : ((((w.alloc (.cells #[.string p.name, .string p.file, .string p.type, .slice bo n bcap] 27)).alloc (.cells #[.string ⟨#[]⟩, .slice none 0 0] 61)).alloc (.cells #[.string ⟨#[110, 97, 109, 101]⟩, .string p.name] 97)).alloc (.cells #[.string ⟨#[102, 111, 114, 109, 45, 100, 97, 116, 97]⟩, .slice (some ⟨w.heap.size + 2, 0, none⟩) 1 1] 61)) = W at *
    clear hW k0
    obtain ⟨x1, r0, r1, q0, q1, m0, m1, m2⟩ := HD.out.cells
    have HBA : Hid (Below W.heap.size W (W.alloc (.cells #[.string ⟨#[102, 105, 108, 101, 110, 97, 109, 101]⟩, .string p.file] 97))) := (Below.refl _ _).alloc (Nat.le_refl _) _
    have HRow := Hid.mk' (HD.out.row.stay HBA.out)
    have HLt := Hid.mk' HD.out.lt
    go_upto_region 4 with (at_builtin; refine wpList_append_v rfl (.tmp 13) (.tmp 17) 59 rfl (w.heap.size + 2) 97 i0 (.agg #[.string ⟨#[]⟩, .string ⟨#[]⟩]) 2 32 Tryz.underlying59 Hi.out Hz0.out Hz1.out Hz2.out rfl (by decide) rfl HRow.out rfl (IsV.made _ _ 1 _ _) rfl (fun u hu => by simp at hu; rcases hu with rfl | rfl <;> rfl) (by decide) (by decide) (by rw [World.size_alloc]; have := HLt.out; omega) ?_; intro a4 c4 w4 hO4 hG4 hat4; have HM := Hid.mk' (HD.out.more HBA.out hO4 hG4 hat4); have y3 := HM.out.2.1; have y4 := HM.out.2.2.1; clear hO4 hG4 hat4)
    have HD2 := Hid.mk' HM.out.2.2.2
    clear HM y3 y4 HRow HBA x1 r0 r1 q0 q1 m0 m1 m2 HD
    generalize (w4.setCell ⟨w.heap.size + 3, 1, none⟩ (Value.slice a4 (1 + 1) c4)) = W5 at *
    obtain ⟨x1, r0, r1, q0, q1, m0, m1, m2⟩ := HD2.out.cells
    go_wp2
    refine bodyPost_ret (v := .agg #[.string ⟨#[102, 111, 114, 109, 45, 100, 97, 116, 97]⟩, .slice a4 (1 + 1) c4]) (by simp [results, Tryz.results64, go_sem, r0, r1]) rfl ⟨a4, c4, by rw [HL.out]; rfl, ?_, ?_⟩
    · rw [HL.out]
      refine IsV.turns (S := fun q => q = w.heap.size + 1) (IsV.turns (S := fun q => q = w.heap.size + 1) HD2.out.row.isV (Turns.setCell _ _ _ _ rfl) (fun a e f => ?_)) (Turns.setCell _ _ _ _ rfl) (fun a e f => ?_) <;> (have := (HD2.out.row.block a e).1; omega)
    · exact (HD2.out.below.setCell (show w.heap.size ≤ w.heap.size + 1 by omega) _).setCell (show w.heap.size ≤ w.heap.size + 1 by omega) _
end Go.Proofs.YtjpenioloeplgadGreatDoor

/- Package pack, walked: headText. -/
namespace Go.Proofs.YtjpenioloeplgadGreatDoor
open Go.RowKit

def Pk.bDisp : ByteArray := ⟨#[67, 111, 110, 116, 101, 110, 116, 45, 68, 105, 115, 112, 111, 115, 105, 116, 105, 111, 110]⟩
def Pk.bType : ByteArray := ⟨#[67, 111, 110, 116, 101, 110, 116, 45, 84, 121, 112, 101]⟩
/-- a part's fields, as they lie in memory -/
def Pk.flsT (p : Fm.Pt) (x : ByteArray) : List (ByteArray × ByteArray) := (Pk.bDisp, x) :: if p.type.data.toList = [] then [] else [(Pk.bType, p.type)]
theorem Pk.flsT_fls (p : Fm.Pt) (x : ByteArray) : Rq.flB (Pk.flsT p x) = Pk.fls (Pk.pp p).1 x.data.toList := by
  unfold Pk.flsT Pk.fls Pk.pp Rq.flB
  simp only
  by_cases h : p.type.data.toList = []
  · rw [if_pos h, if_pos h]; rfl
  · rw [if_neg h, if_neg h]; rfl
theorem Pk.flsT_few (p : Fm.Pt) (x : ByteArray) : 0 < (Pk.flsT p x).length ∧ (Pk.flsT p x).length ≤ 2 := by unfold Pk.flsT; split <;> simp
theorem Pk.flsT_size {p : Fm.Pt} {x : ByteArray} (hx : x.size ≤ 100000) (ht : p.type.size ≤ 9000) : ∀ q ∈ Pk.flsT p x, q.1.size ≤ 100000 ∧ q.2.size ≤ 100000 := fun q hq => by
  unfold Pk.flsT at hq
  rcases List.mem_cons.1 hq with rfl | hq
  · exact ⟨by show (19 : Nat) ≤ _; decide, hx⟩
  · split at hq
    · cases hq
    · rw [List.mem_singleton.1 hq]; exact ⟨by show (12 : Nat) ≤ _; decide, by show p.type.size ≤ _; omega⟩
theorem Pk.disp_len {p : Fm.Pt} {t : List UInt8} (h : Pm.text Fm.nForm (Pk.disp (Pk.pp p).1) = .inr t) (hn : p.name.size ≤ 9000) (hf : p.file.size ≤ 9000) : t.length ≤ 100000 := by
  obtain ⟨hf2, rfl⟩ := Pm.fine_text h
  have h1 := Pm.texts_len 9000 (Pk.disp (Pk.pp p).1) (fun q hq => by
    rw [← Pk.dispT_disp] at hq
    unfold parL Pk.dispT at hq
    obtain ⟨r, hr, rfl⟩ := List.mem_map.1 hq
    rcases List.mem_cons.1 hr with rfl | hr
    · exact ⟨by show (4 : Nat) ≤ _; decide, by show p.name.data.toList.length ≤ _; rw [Ch.len_list]; exact hn⟩
    · split at hr
      · cases hr
      · rw [List.mem_singleton.1 hr]; exact ⟨by show (8 : Nat) ≤ _; decide, by show p.file.data.toList.length ≤ _; rw [Ch.len_list]; exact hf⟩)
  have h2 : (Pk.disp (Pk.pp p).1).length ≤ 2 := by unfold Pk.disp; split <;> simp
  have h3 : (Pk.disp (Pk.pp p).1).length * (5 + 3 * 9000) ≤ 2 * (5 + 3 * 9000) := Nat.mul_le_mul_right _ h2
  have h4 : Fm.nForm.length = 9 := rfl
  rw [List.length_append]
  omega
theorem Pk.flB_len (l : List (ByteArray × ByteArray)) : (Rq.flB l).length = l.length := by simp [Rq.flB]
/-- lines from a place on -/
theorem lines_at (fs : List Rq.Fl) (k : Nat) (h : k < fs.length) : Rq.lines (fs.drop k) = if (Fd.text fs[k].1 fs[k].2).2 ≠ 0 then .inl (Fd.text fs[k].1 fs[k].2).2 else match Rq.lines (fs.drop (k + 1)) with
    | .inl c => .inl c
    | .inr s => .inr ((Fd.text fs[k].1 fs[k].2).1 ++ 13 :: 10 :: s) := by
  rw [List.drop_eq_getElem_cons h, Rq.lines]
  cases Rq.lines (fs.drop (k + 1)) <;> rfl
theorem Pm.txt_code : ∀ (ps seen : List Pm.Par) (acc : List UInt8) (c : Nat), Pm.txt acc seen ps = .inl c → c ≠ 0
  | [], _, _, c, h => by rw [Pm.txt] at h; cases h
  | p :: t, seen, acc, c, h => by
    rw [Pm.txt] at h
    split at h
    · injection h with h; omega
    · split at h
      · injection h with h; omega
      · split at h
        · injection h with h; omega
        · exact Pm.txt_code t _ _ c h
theorem Pm.text_code {wd : List UInt8} {ps : List Pm.Par} {c : Nat} (h : Pm.text wd ps = .inl c) : c ≠ 0 := by
  unfold Pm.text at h
  split at h
  · injection h with h; omega
  · split at h
    · injection h with h; omega
    · exact Pm.txt_code _ _ _ c h
theorem Rq.lines_code : ∀ (fs : List Rq.Fl) (c : Nat), Rq.lines fs = .inl c → c ≠ 0
  | [], c, h => by rw [Rq.lines] at h; cases h
  | f :: r, c, h => by
    rw [Rq.lines] at h
    split at h
    · rename_i hc; injection h with h; subst h; exact hc
    · split at h
      · rename_i d hd; injection h with h; subst h; exact Rq.lines_code r _ hd
      · cases h
theorem Pk.head_code {p : Fm.Prt} {c : Nat} (h : Pk.head p = .inl c) : c ≠ 0 := by
  unfold Pk.head at h
  split at h
  · rename_i hd; injection h with h; subst h; exact Pm.text_code hd
  · exact Rq.lines_code _ _ h
/-- what stands ahead of lines that are still to come -/
def Pk.ahead (x : List UInt8) : Nat ⊕ List UInt8 → Nat ⊕ List UInt8
  | .inl c => .inl c
  | .inr s => .inr (x ++ s)

set_option maxHeartbeats 4000000 in
set_option maxRecDepth 100000 in
theorem headText_any (p : Fm.Pt) (bo : Option Addr) (bcap n : Nat) (w : World) (hnz : p.name.size ≤ 9000) (hfz : p.file.size ≤ 9000) (htz : p.type.size ≤ 9000) :
    Calls Tryz.prog 40 #[.agg #[.string p.name, .string p.file, .string p.type, .slice bo n bcap]] w fun e w' => MTxt (Pk.head (Pk.pp p).1) e ∧ Below w.heap.size w w' := by
  have hO := OneAt.made w #[.string p.name, .string p.file, .string p.type, .slice bo n bcap] 27
  have HO := Hid.mk' hO
  have k0 : (w.alloc (.cells #[.string p.name, .string p.file, .string p.type, .slice bo n bcap] 27)).cell? ⟨w.heap.size, 0, none⟩ = some (.string p.name) := hO.cell 0
  have k1 : (w.alloc (.cells #[.string p.name, .string p.file, .string p.type, .slice bo n bcap] 27)).cell? ⟨w.heap.size, 1, none⟩ = some (.string p.file) := hO.cell 1
  have k2 : (w.alloc (.cells #[.string p.name, .string p.file, .string p.type, .slice bo n bcap] 27)).cell? ⟨w.heap.size, 2, none⟩ = some (.string p.type) := hO.cell 2
  have k3 : (w.alloc (.cells #[.string p.name, .string p.file, .string p.type, .slice bo n bcap] 27)).cell? ⟨w.heap.size, 3, none⟩ = some (.slice bo n bcap) := hO.cell 3
  have HDp := Hid.mk' (fun W => disposition_any' p bo bcap n W)
  have HTx : Hid (∀ W ao cap, IsV W ao cap (Pk.dispT p).length (pairV (Pk.dispT p)) → Calls Tryz.prog 63 #[.agg #[.string ⟨#[102, 111, 114, 109, 45, 100, 97, 116, 97]⟩, .slice ao (Pk.dispT p).length cap]] W fun e w' => MTxt (Pm.text Fm.nForm (Pk.disp (Pk.pp p).1)) e ∧ Below W.heap.size W w') := fun W ao cap h => by
    have h2 : (Pk.dispT p).length ≤ 2 := by unfold Pk.dispT; split <;> simp
    have := textP_any ⟨#[102, 111, 114, 109, 45, 100, 97, 116, 97]⟩ (Pk.dispT p) ao cap _ W h rfl (by omega) (by show (9 : Nat) ≤ _; decide) (fun q hq => by
      unfold Pk.dispT at hq
      rcases List.mem_cons.1 hq with rfl | hq
      · exact ⟨by show (4 : Nat) ≤ _; decide, hnz⟩
      · split at hq
        · cases hq
        · rw [List.mem_singleton.1 hq]; exact ⟨by show (8 : Nat) ≤ _; decide, hfz⟩)
    rw [Pk.dispT_disp] at this
    exact this
  have HHd : Hid (Pk.head (Pk.pp p).1 = match Pm.text Fm.nForm (Pk.disp (Pk.pp p).1) with | .inl c => .inl c | .inr v => Rq.lines (Pk.fls (Pk.pp p).1 v)) := rfl
  have HCo := Hid.mk' (fun c h => Pm.text_code (wd := Fm.nForm) (ps := Pk.disp (Pk.pp p).1) (c := c) h)
  have HLn := Hid.mk' (fun t h => Pk.disp_len (p := p) (t := t) h hnz hfz)
  generalize Pm.text Fm.nForm (Pk.disp (Pk.pp p).1) = M at *
  obtain ⟨dn, hdn⟩ : ∃ dn, (Pk.dispT p).length = dn := ⟨_, rfl⟩
  rw [hdn] at HTx
  simp only [hdn] at HDp
  clear hO hdn
  go_enter Tryz.func40, Tryz.ntmps40
  go_wp2_with fail
  refine (HDp.out _).mono ?_
  rintro e w1 ⟨ao, cap, rfl, hV1, hb1⟩
  have HO1 := Hid.mk' (HO.out.stay hb1)
  have HT1 := Hid.mk' (HTx.out w1 ao cap hV1)
  clear hb1 hV1 HTx HDp HO k0 k1 k2 k3
  go_wp2_with fail
  refine HT1.out.mono ?_
  rintro e w2 ⟨hM, hb2⟩
  have HO2 := Hid.mk' (HO1.out.stay hb2)
  clear hb2 HT1 HO1
  cases M with
  | inl c =>
    obtain ⟨x, code, rfl, rfl, rfl⟩ := hM
    have tc : ((code : Int) != 0) = true := by rw [bne_iff_ne]; have := HCo.out code rfl; omega
    clear HCo HLn
    go_wp2
    go_ret2
    exact ⟨MTxt.bad HHd.out, HO2.out.below⟩
  | inr v =>
    obtain ⟨x, code, rfl, rfl, hxv⟩ := hM
    subst hxv
    have hxz : x.size ≤ 100000 := by have := HLn.out _ rfl; rw [Ch.len_list] at this; exact this
    have HHd2 : Hid (Pk.head (Pk.pp p).1 = Rq.lines (Rq.flB (Pk.flsT p x))) := by unfold Hid; rw [Pk.flsT_fls]; exact HHd.out
    have HSz := Hid.mk' (Pk.flsT_size (p := p) hxz htz)
    have HFw := Hid.mk' (Pk.flsT_few p x)
    clear HCo HLn HHd
    have c2 : w2.cell? ⟨w.heap.size, 2, none⟩ = some (.string p.type) := HO2.out.cell 2
    have hbA : Below w2.heap.size w2 (w2.alloc (.cells #[.string Pk.bDisp, .string x] 58)) := (Below.refl _ _).alloc (Nat.le_refl _) _
    have HB3 := Hid.mk' (then_ HO2.out.below hbA)
    have c3 : (w2.alloc (.cells #[.string Pk.bDisp, .string x] 58)).cell? ⟨w.heap.size, 2, none⟩ = some (.string p.type) := (HO2.out.stay hbA).cell 2
    have HRw : Hid (OwnV (w2.alloc (.cells #[.string Pk.bDisp, .string x] 58)) w2.heap.size 58 2 (some ⟨w2.heap.size, 0, none⟩) 1 1 (pairV [(Pk.bDisp, x)])) := one_own w2 _ _ _ rfl
    have HS2 : Hid (w.heap.size ≤ w2.heap.size) := HO2.out.below.size
    clear hbA
    unfold Pk.bDisp at HB3 c3 HRw
    obtain ⟨i0, hi0, hz0, hz1, hz2⟩ := info_parts info_fld
    have Hi := Hid.mk' hi0; have Hz0 := Hid.mk' hz0; have Hz1 := Hid.mk' hz1; have Hz2 := Hid.mk' hz2
    clear hi0 hz0 hz1 hz2
    obtain ⟨tb, htb⟩ : ∃ tb, (p.type.toList == []) = tb := ⟨_, rfl⟩
    have HTb : Hid ((tb = true → p.type.data.toList = []) ∧ (tb = false → ¬ p.type.data.toList = [])) := by
      rw [← htb, Lib.toList_data]
      exact ⟨fun h => beq_iff_eq.1 h, fun h => beq_eq_false_iff_ne.1 h⟩
    go_upto_region 5 with fail
    generalize hW : (w2.alloc (.cells #[.string ⟨#[67, 111, 110, 116, 101, 110, 116, 45, 68, 105, 115, 112, 111, 115, 105, 116, 105, 111, 110]⟩, .string x] 58)) = W3 at *
    have HSW : Hid (w2.heap.size ≤ W3.heap.size) := by unfold Hid; rw [← hW]; simp
    clear hW
    generalize w2.heap.size = g2 at *
    go_upto_if 26 with fail
    go_cut [6] (fun v6 wd => ∃ ao cap, v6 = .slice ao (Pk.flsT p x).length cap ∧ IsV wd ao cap (Pk.flsT p x).length (pairV (Pk.flsT p x)) ∧ Below w.heap.size w wd)
    case first =>
      cases tb
      case true =>
        have hte := HTb.out.1 rfl
        have HFl : Hid (Pk.flsT p x = [(Pk.bDisp, x)]) := by unfold Hid Pk.flsT; rw [if_pos hte]
        clear hte
        go_wp2
        go_meet
        exact ⟨some ⟨g2, 0, none⟩, 1, by rw [HFl.out]; rfl, by rw [HFl.out]; exact HRw.out.isV, HB3.out⟩
      case false =>
        have hte := HTb.out.2 rfl
        have HFl : Hid (Pk.flsT p x = [(Pk.bDisp, x)] ++ [(Pk.bType, p.type)]) := by unfold Hid Pk.flsT; rw [if_neg hte]; rfl
        have HBA : Hid (Below W3.heap.size W3 (W3.alloc (.cells #[.string ⟨#[67, 111, 110, 116, 101, 110, 116, 45, 84, 121, 112, 101]⟩, .string p.type] 58))) := (Below.refl _ _).alloc (Nat.le_refl _) _
        have HRow := Hid.mk' (HRw.out.stay HBA.out)
        clear hte
        go_wp2_with (at_builtin; go_loud (refine wpList_append_v rfl (.tmp 27) (.tmp 31) 22 rfl g2 58 i0 (.agg #[.string ⟨#[]⟩, .string ⟨#[]⟩]) 2 32 Tryz.underlying22 Hi.out Hz0.out Hz1.out Hz2.out rfl (by decide) rfl HRow.out rfl (IsV.made _ _ 1 _ _) rfl (fun u hu => by simp at hu; rcases hu with rfl | rfl <;> rfl) (by decide) (by decide) (by rw [World.size_alloc]; have := HSW.out; omega) ?_; intro a4 c4 w4 hO4 hG4 hat4; have HO4 := Hid.mk' hO4; have HB4 := Hid.mk' ((then_ HB3.out HBA.out).grown hG4 (then_ HB3.out HBA.out).size (fun q e => by injection e with e; have e : g2 = q := e; have := HS2.out; omega)); clear hO4 hG4 hat4))
        go_meet
        exact ⟨a4, c4, by rw [HFl.out]; rfl, by rw [HFl.out, pairV_append]; exact HO4.out.isV, HB4.out⟩
    case rest =>
      obtain ⟨ao4, cap4, rfl, hV4, hB4⟩ := hcut
      have HV4 := Hid.mk' hV4; have HB4 := Hid.mk' hB4
      obtain ⟨fb, fo, rfl, _⟩ := hV4.lit (by rw [pairV_length]; have := HFw.out; omega)
      have hcp := hV4.1
      clear hV4 hB4 HRw HB3 c3 c2 HO2 HS2 HSW
      generalize Pk.flsT p x = fl at *
      obtain ⟨fn, hfn⟩ : ∃ fn, fl.length = fn := ⟨_, rfl⟩
      rw [hfn] at HV4 HFw hcp
      rw [hfn]
      have HFn := Hid.mk' hfn
      have hf2 := HFw.out.2
      clear hfn
      go_wp2
      go_loopw [7, 35] (fun vs vi wr => ∃ (k : Nat) (y : ByteArray), k ≤ fn ∧ vi = .int .i64 k ∧ vs = .string y ∧ y.size ≤ k * 300000 ∧ Rq.lines (Rq.flB fl) = Pk.ahead y.data.toList (Rq.lines ((Rq.flB fl).drop k)) ∧ Below w.heap.size w wr ∧ IsV wr (some ⟨fb, fo, none⟩) cap4 fn (pairV fl)) (fun _ vi _ => fn - (intOf vi).toNat)
      case atStart => exact ⟨0, ⟨#[]⟩, Nat.zero_le _, rfl, rfl, Nat.le_refl _, by rw [List.drop_zero]; cases Rq.lines (Rq.flB fl) <;> rfl, HB4.out, HV4.out⟩
      case round =>
        clear HV4 HB4
        obtain ⟨k, y, hk, rfl, rfl, hyz, hln, hB, hV⟩ := hrel
        have HLn := Hid.mk' hln; have HB := Hid.mk' hB; have HV := Hid.mk' hV
        clear hln hB hV
        by_cases hlt : k < fn
        · have hlt' : (k : Int) < fn := by omega
          have hkl : k < fl.length := by rw [HFn.out]; exact hlt
          obtain ⟨bb, oo, hao, hcs⟩ := HV.out.lit (by rw [pairV_length]; omega)
          injection hao with hao
          injection hao with e1 e2 _
          subst e1; subst e2
          have d0 := hcs _ _ (pairV_at fl k hkl).1
          have d1 := hcs _ _ (pairV_at fl k hkl).2
          rw [← Nat.add_assoc] at d1
          have hz := HSz.out fl[k] (List.getElem_mem hkl)
          have hat := lines_at (Rq.flB fl) k (by rw [Pk.flB_len]; exact hkl)
          have hget : (Rq.flB fl)[k]'(by rw [Pk.flB_len]; exact hkl) = (fl[k].1.data.toList, fl[k].2.data.toList) := by simp [Rq.flB]
          rw [hget] at hat
          rw [hat] at HLn
          have HTx := Hid.mk' (fun W => text_any fl[k].1 fl[k].2 W hz.1 hz.2)
          unfold txVal at HTx
          have htl := Fd.text_length fl[k].1.data.toList fl[k].2.data.toList
          rw [Ch.len_list, Ch.len_list] at htl
          clear hcs hat hget
          generalize fl[k] = q at *
          simp only at *
          generalize hTT : Fd.text q.1.data.toList q.2.data.toList = TT at *
          have hbx : Below wr.heap.size wr (wr.alloc (.cells #[.string q.1, .string q.2] 58)) := (Below.refl _ _).alloc (Nat.le_refl _) _
          have HBx := Hid.mk' (then_ HB.out hbx); have HVx := Hid.mk' (HV.out.stay hbx)
          clear hTT hbx
          go_wp2_with fail
          refine (HTx.out _).mono ?_
          rintro e w5 ⟨rfl, hb5⟩
          have HB5 := Hid.mk' (then_ HBx.out hb5); have HV5 := Hid.mk' (HVx.out.stay hb5)
          clear hb5 HTx d0 d1 HBx HVx
          by_cases hc : TT.2 = 0
          · have tc : ((TT.2 : Int) != 0) = false := by rw [hc]; rfl
            rw [if_neg (by rw [hc]; simp)] at HLn
            have HC := Hid.mk' hc
            clear hc
            have hsz : (y ++ (⟨TT.1.toArray⟩ ++ ⟨#[13, 10]⟩) : ByteArray).size = y.size + (TT.1.length + 2) := by
              rw [ByteArray.size_append, ByteArray.size_append]; show y.size + (TT.1.toArray.size + 2) = _; rw [List.size_toArray]
            have HSzz := Hid.mk' hsz
            clear hsz
            go_wp2
            go_roundw
            case rel =>
              refine ⟨k + 1, _, by omega, by go_num, rfl, by rw [HSzz.out]; omega, ?_, HB5.out, HV5.out⟩
              rw [HLn.out]
              cases Rq.lines ((Rq.flB fl).drop (k + 1)) with
              | inl c => rfl
              | inr t => unfold Pk.ahead; simp
            case measure => simp [intOf]; omega
          · have tc : ((TT.2 : Int) != 0) = true := by rw [bne_iff_ne]; omega
            rw [if_pos hc] at HLn
            have HR : Hid (Pk.head (Pk.pp p).1 = .inl TT.2) := HHd2.out.trans HLn.out
            clear hc
            go_wp2
            go_ret2
            exact ⟨MTxt.bad HR.out, HB5.out⟩
        · obtain rfl : k = fn := by omega
          have HR : Hid (Pk.head (Pk.pp p).1 = .inr y.data.toList) := by
            unfold Hid
            rw [HHd2.out, HLn.out, List.drop_eq_nil_of_le (by rw [Pk.flB_len, HFn.out]; exact Nat.le_refl _)]
            unfold Rq.lines Pk.ahead; simp
          go_wp2
          go_ret2
          exact ⟨MTxt.good HR.out, HB.out⟩
end Go.Proofs.YtjpenioloeplgadGreatDoor

/- Package pack, walked: Write. -/
namespace Go.Proofs.YtjpenioloeplgadGreatDoor
open Go.RowKit

theorem Pk.all_fault {b acc : List UInt8} {p : Pk.P} {t : List Pk.P} (h : Pk.fault b p ≠ 0) : Pk.all b acc (p :: t) = .inl (Pk.fault b p) := by
  rw [Pk.all]; unfold Pk.one; rw [if_pos h]
theorem Pk.all_head {b acc : List UInt8} {p : Pk.P} {t : List Pk.P} {c : Nat} (h : Pk.fault b p = 0) (hh : Pk.head p.1 = .inl c) : Pk.all b acc (p :: t) = .inl c := by
  rw [Pk.all]; unfold Pk.one; rw [if_neg (by rw [h]; simp), hh]
theorem Pk.all_ok {b acc : List UInt8} {p : Pk.P} {t : List Pk.P} {x : List UInt8} (h : Pk.fault b p = 0) (hh : Pk.head p.1 = .inr x) : Pk.all b acc (p :: t) = Pk.all b (acc ++ Pk.wrap b x p.2) t := by
  rw [Pk.all]; unfold Pk.one; rw [if_neg (by rw [h]; simp), hh]
theorem Pk.lines_len : ∀ (fs : List Rq.Fl) (s : List UInt8), Rq.lines fs = .inr s → s.length ≤ 202 * fs.length
  | [], s, h => by injection h with h; rw [← h]; exact Nat.zero_le _
  | f :: r, s, h => by
    rw [Rq.lines] at h
    split at h
    · cases h
    · rename_i hc
      split at h
      · cases h
      · rename_i t ht
        injection h with h
        have ih := Pk.lines_len r t ht
        have hz := Fd.text_zero (by simpa using hc)
        rw [Fd.text_good hz.1 hz.2] at h
        rw [← h]
        simp only [List.length_append, List.length_cons, List.length_nil]
        have := hz.2
        omega
theorem Pk.head_len {p : Fm.Prt} {x : List UInt8} (h : Pk.head p = .inr x) : x.length ≤ 404 := by
  unfold Pk.head at h
  split at h
  · cases h
  · rename_i v hv
    have h1 := Pk.lines_len _ _ h
    have h2 := Pk.fls_few p v
    have : 202 * (Pk.fls p v).length ≤ 202 * 2 := Nat.mul_le_mul_left _ h2
    omega
/-- what Write answers, and FormText -/
inductive PkOut (w : World) (r : Nat ⊕ List UInt8) (e : Ending) (w' : World) : Prop
  | bad (c : Nat) (hr : r = .inl c) (he : e = .returned (.tuple #[.slice none 0 0, .int .i64 (c : Int)])) (hb : Below w.heap.size w w')
  | good (t : List UInt8) (hr : r = .inr t) (ao : Option Addr) (cap n : Nat) (he : e = .returned (.tuple #[.slice ao n cap, .int .i64 0])) (hn : n = t.length) (hO : OwnB w' w.heap.size 5 ao cap t) (hb : Below w.heap.size w w')
/-- parts that are not too great -/
def PtSmall (p : Fm.Pt) : Prop := p.name.size ≤ 9000 ∧ p.file.size ≤ 9000 ∧ p.type.size ≤ 9000 ∧ p.bytes.length ≤ 9000
theorem below_grown {w w1 w2 : World} {ao : Option Addr} {cap t : Nat} {l : List UInt8} (hB : Below w.heap.size w w1) (hO : OwnB w1 w.heap.size t ao cap l) (hG : w1.grownBy w2 (blockOf ao)) : Below w.heap.size w w2 :=
  hB.grown hG hB.size (fun q e => by
    cases ao with
    | none => cases e
    | some a => injection e with e; subst e; exact (hO.block a rfl).1)

set_option maxHeartbeats 800000 in
set_option maxRecDepth 100000 in
theorem writeK_any (s : ByteArray) (ps : List Fm.Pt) (ao : Option Addr) (cap n : Nat) (w : World) (hP : IsPts w ao cap ps) (hn : ps.length = n) (hN : n ≤ 1000000) (hz : ∀ p ∈ ps, PtSmall p) (hs : s.size ≤ 1000) (mx : Int) (hm : w.cell? ⟨0, 0, none⟩ = some (.int .i64 mx)) :
    Calls Tryz.prog 16 #[.string s, .slice ao n cap] w fun e w' => PkOut w (Pk.text s.data.toList (ps.map Pk.pp)) e w' := by
  subst hn
  have HMk := Hid.mk' (mark_any s w)
  have HP := Hid.mk' hP; have HZ := Hid.mk' hz; have HM := Hid.mk' hm
  have hcap : ps.length ≤ cap := by obtain ⟨_, _, g, _⟩ := hP; exact g.1
  clear hP hz hm
  cases hmk : Fm.isMark s.data.toList with
  | false =>
    rw [hmk] at HMk
    have HT : Hid (Pk.text s.data.toList (ps.map Pk.pp) = .inl 5) := by unfold Hid Pk.text; rw [if_pos hmk]
    clear hmk
    go_enter Tryz.func16, Tryz.ntmps16
    go_wp2_with fail
    refine HMk.out.mono ?_
    rintro e w1 ⟨rfl, hb1⟩
    have HB1 := Hid.mk' hb1
    clear hb1
    go_wp2
    go_ret2
    exact .bad 5 HT.out rfl HB1.out
  | true =>
    rw [hmk] at HMk
    by_cases h12 : 12 < ps.length
    · have HT : Hid (Pk.text s.data.toList (ps.map Pk.pp) = .inl 8) := by unfold Hid Pk.text; rw [if_neg (by rw [hmk]; simp), if_pos (by rw [List.length_map]; exact h12)]
      have t12 : decide ((ps.length : Int) > 12) = true := decide_eq_true (by omega)
      clear hmk
      go_enter Tryz.func16, Tryz.ntmps16
      go_wp2_with fail
      refine HMk.out.mono ?_
      rintro e w1 ⟨rfl, hb1⟩
      have HB1 := Hid.mk' hb1
      clear hb1
      go_wp2
      go_ret2
      exact .bad 8 HT.out rfl HB1.out
    · have HT : Hid (Pk.text s.data.toList (ps.map Pk.pp) = Pk.all s.data.toList [] (ps.map Pk.pp)) := by unfold Hid Pk.text; rw [if_neg (by rw [hmk]; simp), if_neg (by rw [List.length_map]; exact h12)]
      have t12 : decide ((ps.length : Int) > 12) = false := decide_eq_false (by omega)
      have hsb : (⟨#[45, 45]⟩ ++ s : ByteArray).size = s.size + 2 := by rw [ByteArray.size_append]; show 2 + s.size = _; omega
      have HBd : Hid ((⟨#[45, 45]⟩ ++ s : ByteArray).data.toList = 45 :: 45 :: s.data.toList) := by unfold Hid; rw [Ch.data_append]; rfl
      obtain ⟨i0, hi0, hz0, hz1, hz2⟩ := info_parts info_u8
      have Hi := Hid.mk' hi0; have Hz0 := Hid.mk' hz0; have Hz1 := Hid.mk' hz1; have Hz2 := Hid.mk' hz2
      clear hi0 hz0 hz1 hz2 hmk
      generalize hpt : Pk.text s.data.toList (ps.map Pk.pp) = PT at *
      go_enter Tryz.func16, Tryz.ntmps16
      go_wp2_with fail
      refine HMk.out.mono ?_
      rintro e w1 ⟨rfl, hb1⟩
      have HB1 := Hid.mk' hb1
      clear hb1 HMk
      go_wp2
      clear t12
      generalize (⟨#[45, 45]⟩ ++ s : ByteArray) = bg at *
      go_loopw [7, 25] (fun vo vi wr => ∃ (k m : Nat) (ao' : Option Addr) (cap' : Nat) (acc : List UInt8), k ≤ ps.length ∧ vi = .int .i64 k ∧ vo = .slice ao' m cap' ∧ m = acc.length ∧ m ≤ k * 20000 ∧ OwnB wr w.heap.size 5 ao' cap' acc ∧ Below w.heap.size w wr ∧ PT = Pk.all s.data.toList acc ((ps.map Pk.pp).drop k)) (fun _ vi _ => ps.length - (intOf vi).toNat)
      case atStart => exact ⟨0, 0, none, 0, [], Nat.zero_le _, rfl, rfl, rfl, Nat.le_refl _, OwnB.nil _ _ _, HB1.out, HT.out⟩
      case round =>
        clear HB1 HT
        obtain ⟨k, m, ao', cap', acc, hk, rfl, rfl, hml, hmz, hO, hB, hA⟩ := hrel
        have HO := Hid.mk' hO; have HB := Hid.mk' hB; have HA := Hid.mk' hA; have HMl := Hid.mk' hml
        clear hO hB hA hml
        by_cases hlt : k < ps.length
        · have hlt' : (k : Int) < ps.length := by omega
          obtain ⟨b, o, st, rfl, e0, e1, e2, e3, hIb⟩ := HP.out.at_ k hlt
          have c0 := (HB.out.cell (World.block_lt_of_cell? w _ e0)).trans e0
          have c1 := (HB.out.cell (World.block_lt_of_cell? w _ e1)).trans e1
          have c2 := (HB.out.cell (World.block_lt_of_cell? w _ e2)).trans e2
          have c3 := (HB.out.cell (World.block_lt_of_cell? w _ e3)).trans e3
          clear e0 e1 e2 e3
          have hdr : (ps.map Pk.pp).drop k = Pk.pp ps[k] :: (ps.map Pk.pp).drop (k + 1) := by
            rw [List.drop_eq_getElem_cons (by rw [List.length_map]; exact hlt), List.getElem_map]
          rw [hdr] at HA
          have hsm := HZ.out ps[k] (List.getElem_mem hlt)
          clear hdr
          generalize ps[k] = p at *
          obtain ⟨h1, h2, h3, h4⟩ := hsm
          obtain ⟨nb, hnb⟩ : ∃ nb, p.bytes.length = nb := ⟨_, rfl⟩
          rw [hnb] at c3 h4
          have HNb := Hid.mk' hnb
          have hX := OneAt.made wr #[.string p.name, .string p.file, .string p.type, .slice st.bo nb st.bcap] 27
          have HX := Hid.mk' hX
          have x0 : (wr.alloc (.cells #[.string p.name, .string p.file, .string p.type, .slice st.bo nb st.bcap] 27)).cell? ⟨wr.heap.size, 0, none⟩ = some (.string p.name) := hX.cell 0
          have x1 : (wr.alloc (.cells #[.string p.name, .string p.file, .string p.type, .slice st.bo nb st.bcap] 27)).cell? ⟨wr.heap.size, 1, none⟩ = some (.string p.file) := hX.cell 1
          have x2 : (wr.alloc (.cells #[.string p.name, .string p.file, .string p.type, .slice st.bo nb st.bcap] 27)).cell? ⟨wr.heap.size, 2, none⟩ = some (.string p.type) := hX.cell 2
          have x3 : (wr.alloc (.cells #[.string p.name, .string p.file, .string p.type, .slice st.bo nb st.bcap] 27)).cell? ⟨wr.heap.size, 3, none⟩ = some (.slice st.bo nb st.bcap) := hX.cell 3
          have HBy : Hid (∀ W, Below w.heap.size w W → IsB W st.bo st.bcap p.bytes) := fun W hW => hIb.stay hW
          have hmk : (⟨#[13, 10]⟩ ++ bg : ByteArray).data.toList = Fm.mark s.data.toList := by rw [Ch.data_append, HBd.out]; rfl
          have hmks : (⟨#[13, 10]⟩ ++ bg : ByteArray).size = s.size + 4 := by rw [ByteArray.size_append, hsb]; show 2 + (s.size + 2) = _; omega
          have hmx : wr.cell? ⟨0, 0, none⟩ = some (.int .i64 mx) := (HB.out.cell (World.block_lt_of_cell? w _ HM.out)).trans HM.out
          have HFa := Hid.mk' (fault_any p st.bo st.bcap nb (⟨#[13, 10]⟩ ++ bg) s.data.toList _ (HBy.out _ (then_ HB.out hX.below)) hnb (by omega) hmk (by omega) (by omega) mx ((hX.below.cell (World.block_lt_of_cell? wr _ hmx)).trans hmx))
          have HHt := Hid.mk' (fun W => headText_any p st.bo st.bcap nb W h1 h2 h3)
          clear hIb hX hmk hmks hmx hnb
          generalize hfc : Pk.fault s.data.toList (Pk.pp p) = fc at *
          have HFc := Hid.mk' hfc
          clear hfc
          go_wp2_with fail
          refine HFa.out.mono ?_
          rintro e w2 ⟨rfl, hb2⟩
          have HX2 := Hid.mk' (HX.out.stay hb2)
          clear hb2 HFa x0 x1 x2 x3 HX c0 c1 c2 c3
          by_cases hf0 : fc = 0
          · have tf : ((fc : Int) != 0) = false := by rw [hf0]; rfl
            have HF0 : Hid (Pk.fault s.data.toList (Pk.pp p) = 0) := HFc.out.trans hf0
            clear hf0
            have x0 : w2.cell? ⟨wr.heap.size, 0, none⟩ = some (.string p.name) := HX2.out.cell 0
            have x1 : w2.cell? ⟨wr.heap.size, 1, none⟩ = some (.string p.file) := HX2.out.cell 1
            have x2 : w2.cell? ⟨wr.heap.size, 2, none⟩ = some (.string p.type) := HX2.out.cell 2
            have x3 : w2.cell? ⟨wr.heap.size, 3, none⟩ = some (.slice st.bo nb st.bcap) := HX2.out.cell 3
            go_wp2_with fail
            refine (HHt.out _).mono ?_
            rintro e w3 ⟨hMt, hb3⟩
            have HX3 := Hid.mk' (HX2.out.stay hb3)
            clear hb3 HHt x0 x1 x2 x3 HX2
            cases hhd : Pk.head (Pk.pp p).1 with
            | inl c =>
              rw [hhd] at hMt
              obtain ⟨y, code, rfl, rfl, rfl⟩ := hMt
              have tc : ((code : Int) != 0) = true := by rw [bne_iff_ne]; have := Pk.head_code hhd; omega
              have HR : Hid (PT = .inl code) := HA.out.trans (Pk.all_head HF0.out hhd)
              have HB3 : Hid (Below w.heap.size w w3) := then_ HB.out HX3.out.below
              clear hhd HA
              go_wp2
              go_ret2
              exact .bad code HR.out rfl HB3.out
            | inr hh =>
              rw [hhd] at hMt
              obtain ⟨y, code, rfl, rfl, rfl⟩ := hMt
              have hyl := Pk.head_len hhd
              rw [Ch.len_list] at hyl
              have HA2 : Hid (PT = Pk.all s.data.toList (acc ++ Pk.wrap s.data.toList y.data.toList p.bytes) ((ps.map Pk.pp).drop (k + 1))) := HA.out.trans (Pk.all_ok HF0.out hhd)
              have hB3 : Below w.heap.size w w3 := then_ HB.out HX3.out.below
              have HB3 := Hid.mk' hB3
              have HO3 := Hid.mk' (HO.out.stay HX3.out.below)
              have x3 : w3.cell? ⟨wr.heap.size, 3, none⟩ = some (.slice st.bo nb st.bcap) := HX3.out.cell 3
              have hts : (bg ++ ⟨#[13, 10]⟩ ++ y ++ ⟨#[13, 10]⟩ : ByteArray).size = s.size + 6 + y.size := by
                rw [ByteArray.size_append, ByteArray.size_append, ByteArray.size_append, hsb]; show s.size + 2 + 2 + y.size + 2 = _; omega
              have HTd : Hid ((bg ++ ⟨#[13, 10]⟩ ++ y ++ ⟨#[13, 10]⟩ : ByteArray).data.toList = 45 :: 45 :: (s.data.toList ++ 13 :: 10 :: (y.data.toList ++ [13, 10]))) := by
                unfold Hid; rw [Ch.data_append, Ch.data_append, Ch.data_append, HBd.out]; simp
              clear hhd HA hB3
              go_upto_region 17 with (at_builtin; go_loud (refine wpList_append_s rfl (.tmp 44) (.tmp 49) 25 9 rfl w.heap.size 5 i0 Tryz.underlying25 Tryz.underlying9 Hi.out Hz0.out Hz1.out Hz2.out rfl HMl.out.symm HO3.out _ rfl (by rw [hts]; omega) HB3.out.size ?_; intro a4 c4 w4 hO4 hG4; have HO4 := Hid.mk' hO4; have HG4 := Hid.mk' hG4; clear hO4 hG4))
              have hne : ∀ a, ao' = some a → a.block ≠ wr.heap.size := fun a e f => by have := (HO.out.block a e).2; omega
              have hB4 := below_grown HB3.out HO3.out HG4.out
              have hX4 : w4.heap[wr.heap.size]? = some (.cells #[.string p.name, .string p.file, .string p.type, .slice st.bo nb st.bcap] 27 (0, 0)) := (Turns.of_grown (S := fun q => blockOf ao' = some q) HG4.out (fun q e => e)).row HX3.out.one (fun e => by
                cases ao' with
                | none => cases e
                | some a => injection e with e; exact hne a rfl e)
              have y3 : w4.cell? ⟨wr.heap.size, 3, none⟩ = some (.slice st.bo nb st.bcap) := cell_of_row w4 _ 3 _ _ _ hX4
              have HB4 := Hid.mk' hB4
              have HI4 := Hid.mk' (HBy.out w4 hB4)
              have HL4 : Hid ((acc ++ (bg ++ ⟨#[13, 10]⟩ ++ y ++ ⟨#[13, 10]⟩ : ByteArray).data.toList).length = m + (s.size + 6 + y.size)) := by unfold Hid; rw [List.length_append, Ch.len_list, HMl.out, hts]
              clear hne hB4 hX4 x3 HO3 HG4 HB3
              generalize (bg ++ ⟨#[13, 10]⟩ ++ y ++ ⟨#[13, 10]⟩ : ByteArray) = tx at *
              go_upto_region 18 with (at_builtin; go_loud (refine wpList_append_b rfl (.tmp 51) (.tmp 53) 25 rfl w.heap.size 5 i0 Tryz.underlying25 Hi.out Hz0.out Hz1.out Hz2.out rfl HL4.out HO4.out rfl HNb.out HI4.out (by omega) HB4.out.size ?_; intro a5 c5 w5 hO5 hG5; have HO5 := Hid.mk' hO5; have HB5 := Hid.mk' (below_grown HB4.out HO4.out hG5); clear hO5 hG5))
              have HL5 : Hid ((acc ++ tx.data.toList ++ p.bytes).length = m + (s.size + 6 + y.size) + nb) := by unfold Hid; rw [List.length_append, HL4.out, HNb.out]
              clear y3 HO4 HI4
              go_wp2_with (at_builtin; go_loud (refine wpList_append_s rfl (.tmp 55) (.const (.string ⟨#[13, 10]⟩)) 25 9 rfl w.heap.size 5 i0 Tryz.underlying25 Tryz.underlying9 Hi.out Hz0.out Hz1.out Hz2.out rfl HL5.out HO5.out ⟨#[13, 10]⟩ rfl (by show _ + 2 ≤ _; omega) HB5.out.size ?_; intro a6 c6 w6 hO6 hG6; have HO6 := Hid.mk' hO6; have HB6 := Hid.mk' (below_grown HB5.out HO5.out hG6); clear hO6 hG6))
              have HWr : Hid (acc ++ Pk.wrap s.data.toList y.data.toList p.bytes = acc ++ tx.data.toList ++ p.bytes ++ [13, 10]) := by
                unfold Hid Pk.wrap; rw [HTd.out]; simp
              go_roundw
              case rel => exact ⟨k + 1, m + (s.size + 6 + y.size) + nb + 2, a6, c6, acc ++ tx.data.toList ++ p.bytes ++ [13, 10], by omega, by go_num, by rfl, by rw [List.length_append, HL5.out]; rfl, by omega, HO6.out, HB6.out, by rw [← HWr.out]; exact HA2.out⟩
              case measure => simp [intOf]; omega
          · have tf : ((fc : Int) != 0) = true := by rw [bne_iff_ne]; omega
            have HR : Hid (PT = .inl fc) := by
              unfold Hid; rw [HA.out, Pk.all_fault (by rw [HFc.out]; exact hf0), HFc.out]
            have HB2 : Hid (Below w.heap.size w w2) := then_ HB.out HX2.out.below
            clear hf0 HA
            go_wp2
            go_ret2
            exact .bad fc HR.out rfl HB2.out
        · obtain rfl : k = ps.length := by omega
          have hts : (bg ++ ⟨#[45, 45]⟩ ++ ⟨#[13, 10]⟩ : ByteArray).size = s.size + 6 := by
            rw [ByteArray.size_append, ByteArray.size_append, hsb]; rfl
          have HTd : Hid ((bg ++ ⟨#[45, 45]⟩ ++ ⟨#[13, 10]⟩ : ByteArray).data.toList = 45 :: 45 :: (s.data.toList ++ [45, 45, 13, 10])) := by
            unfold Hid; rw [Ch.data_append, Ch.data_append, HBd.out]; simp
          have HR : Hid (PT = .inr (acc ++ 45 :: 45 :: (s.data.toList ++ [45, 45, 13, 10]))) := by
            unfold Hid; rw [HA.out, List.drop_eq_nil_of_le (by rw [List.length_map]; exact Nat.le_refl _)]; rfl
          clear HA
          go_wp2_with (at_builtin; go_loud (refine wpList_append_s rfl (.tmp 58) (.tmp 61) 25 9 rfl w.heap.size 5 i0 Tryz.underlying25 Tryz.underlying9 Hi.out Hz0.out Hz1.out Hz2.out rfl HMl.out.symm HO.out _ rfl (by rw [hts]; omega) HB.out.size ?_; intro a6 c6 w6 hO6 hG6; have HO6 := Hid.mk' hO6; have HB6 := Hid.mk' (below_grown HB.out HO.out hG6); clear hO6 hG6))
          go_ret2
          refine .good _ HR.out a6 c6 _ rfl ?_ ?_ HB6.out
          · rw [List.length_append, ← HTd.out, Ch.len_list, HMl.out, hts]
          · rw [← HTd.out]; exact HO6.out
end Go.Proofs.YtjpenioloeplgadGreatDoor

/- The statements' own: greatParts, packBegun, walked. -/
namespace Go.Proofs.YtjpenioloeplgadGreatDoor
open Go.RowKit

/-- how much a part takes -/
def psz (p : Fm.Pt) : Nat := p.bytes.length + p.name.size + p.file.size + p.type.size
def pszs (l : List Fm.Pt) : Nat := (l.map psz).sum
theorem pszs_take (l : List Fm.Pt) (k : Nat) (h : k < l.length) : pszs (l.take (k + 1)) = pszs (l.take k) + psz l[k] := by
  unfold pszs
  rw [List.take_succ_eq_append_getElem h, List.map_append, List.sum_append]
  simp
theorem psz_mem (l : List Fm.Pt) (p : Fm.Pt) (h : p ∈ l) : psz p ≤ pszs l := by
  induction l with
  | nil => cases h
  | cons q t ih =>
    unfold pszs
    rw [List.map_cons, List.sum_cons]
    rcases List.mem_cons.1 h with e | e
    · subst e; omega
    · have := ih e; unfold pszs at this; omega

/-- what greatParts answers: if no, all is small -/
def GpOut (w : World) (ps : List Fm.Pt) (e : Ending) (w' : World) : Prop := ∃ b : Bool, e = .returned (.bool b) ∧ (b = false → ps.length ≤ 40 ∧ (∀ p ∈ ps, psz p ≤ 6000) ∧ pszs ps ≤ 6000) ∧ ∃ q, w' = w.drewN q

set_option maxHeartbeats 1600000 in
set_option maxRecDepth 100000 in
theorem greatParts_any (ps : List Fm.Pt) (ao : Option Addr) (cap n : Nat) (w : World) (hP : IsPts w ao cap ps) (hn : ps.length = n) (hN : n ≤ 140737488355328) (hz : ∀ p ∈ ps, psz p ≤ 562949953421312) :
    Calls Tryz.prog 15 #[.slice ao n cap] w fun e w' => GpOut w ps e w' := by
  subst hn
  have HP := Hid.mk' hP; have HZ := Hid.mk' hz
  have hcap : ps.length ≤ cap := by obtain ⟨_, _, g, _⟩ := hP; exact g.1
  clear hP hz
  go_enter Tryz.func15, Tryz.ntmps15
  go_wp2
  go_loopw [3, 4] (fun vn vi wr => ∃ k q : Nat, k ≤ ps.length ∧ k ≤ 50 ∧ vi = .int .i64 k ∧ vn = .int .i64 (pszs (ps.take k) : Int) ∧ pszs (ps.take k) ≤ k * 562949953421312 ∧ wr = w.drewN q) (fun _ vi _ => 50 - (intOf vi).toNat)
  case atStart => exact ⟨0, 0, Nat.zero_le _, Nat.zero_le _, rfl, rfl, by simp [pszs], rfl⟩
  case round =>
    obtain ⟨k, q, hk, hk5, rfl, rfl, hsum, rfl⟩ := hrel
    by_cases hlt : k < ps.length
    · have hlt' : (k : Int) < ps.length := by omega
      by_cases h50 : k < 50
      · have h50' : (k : Int) < 50 := by omega
        obtain ⟨b, o, st, rfl, c0, c1, c2, c3, _⟩ := HP.out.at_ k hlt
        have hps := HZ.out ps[k] (List.getElem_mem hlt)
        have HS := Hid.mk' (pszs_take ps k hlt)
        unfold psz at hps HS
        generalize ps[k] = p at *
        generalize p.bytes.length = nb at *
        generalize pszs (ps.take k) = S at *
        have w1 : IntKind.i64.wrap ((nb : Int) + p.name.size) = (nb : Int) + p.name.size := wrap_id (by omega) (by omega)
        have w2 : IntKind.i64.wrap ((nb : Int) + p.name.size + p.file.size) = (nb : Int) + p.name.size + p.file.size := wrap_id (by omega) (by omega)
        have w3 : IntKind.i64.wrap ((nb : Int) + p.name.size + p.file.size + p.type.size) = (nb : Int) + p.name.size + p.file.size + p.type.size := wrap_id (by omega) (by omega)
        have w4 : IntKind.i64.wrap ((S : Int) + ((nb : Int) + p.name.size + p.file.size + p.type.size)) = (S : Int) + ((nb : Int) + p.name.size + p.file.size + p.type.size) := wrap_id (by omega) (by omega)
        go_wp2
        go_quiet (fail)
        go_wp2
        go_roundw
        case rel => exact ⟨k + 1, q + nq, by omega, by omega, by go_num, by rw [HS.out]; go_num, by rw [HS.out]; omega, by simp⟩
        case measure => simp [intOf]; omega
      · have h50' : ¬ (k : Int) < 50 := by omega
        have t40 : decide ((ps.length : Int) > 40) = true := decide_eq_true (by omega)
        go_wp2
        go_ret
        exact ⟨true, rfl, (fun h => by cases h), q, rfl⟩
    · obtain rfl : k = ps.length := by omega
      rw [List.take_length] at hsum ⊢
      by_cases h40 : 40 < ps.length
      · have t40 : decide ((ps.length : Int) > 40) = true := decide_eq_true (by omega)
        go_wp2
        go_ret
        exact ⟨true, rfl, (fun h => by cases h), q, rfl⟩
      · have t40 : decide ((ps.length : Int) > 40) = false := decide_eq_false (by omega)
        by_cases h6 : 6000 < pszs ps
        · have t6 : decide ((pszs ps : Int) > 6000) = true := decide_eq_true (by omega)
          go_wp2
          go_ret
          exact ⟨true, rfl, (fun h => by cases h), q, rfl⟩
        · have t6 : decide ((pszs ps : Int) > 6000) = false := decide_eq_false (by omega)
          have HR : Hid (ps.length ≤ 40 ∧ (∀ p ∈ ps, psz p ≤ 6000) ∧ pszs ps ≤ 6000) := ⟨by omega, fun p hp => by have := psz_mem ps p hp; omega, by omega⟩
          go_wp2
          go_ret
          exact ⟨false, rfl, fun _ => HR.out, q, rfl⟩

theorem pbeg_text : Pk.text (⟨#[88]⟩ : ByteArray).data.toList [Pk.pp ⟨⟨#[97]⟩, ⟨#[102]⟩, ⟨#[]⟩, [98]⟩] = .inr [45, 45, 88, 13, 10, 67, 111, 110, 116, 101, 110, 116, 45, 68, 105, 115, 112, 111, 115, 105, 116, 105, 111, 110, 58, 32, 102, 111, 114, 109, 45, 100, 97, 116, 97, 59, 32, 110, 97, 109, 101, 61, 97, 59, 32, 102, 105, 108, 101, 110, 97, 109, 101, 61, 102, 13, 10, 13, 10, 98, 13, 10, 45, 45, 88, 45, 45, 13, 10] := by decide +kernel
theorem pbeg_row (W : World) (t : Nat) (g : Nat) {k : Nat} (hk : W.heap.size = k) (hB : IsB W (some ⟨g, 0, none⟩) 1 [98]) : IsPts (W.alloc (.cells #[.string ⟨#[97]⟩, .string ⟨#[102]⟩, .string ⟨#[]⟩, .slice (some ⟨g, 0, none⟩) 1 1] t)) (some ⟨k, 0, none⟩) 1 [⟨⟨#[97]⟩, ⟨#[102]⟩, ⟨#[]⟩, [98]⟩] := by
  subst hk
  refine ⟨[(⟨⟨#[97]⟩, ⟨#[102]⟩, ⟨#[]⟩, [98]⟩, ⟨some ⟨g, 0, none⟩, 1⟩)], rfl, ?_, fun q hq => ?_⟩
  · exact IsV.made W #[.string ⟨#[97]⟩, .string ⟨#[102]⟩, .string ⟨#[]⟩, .slice (some ⟨g, 0, none⟩) 1 1] 1 t (0, 0)
  · rw [List.mem_singleton.1 hq]; exact hB.stay ((Below.refl _ _).alloc (Nat.le_refl _) _)

set_option maxHeartbeats 1600000 in
set_option maxRecDepth 100000 in
theorem packBegun_any (w : World) (mx : Int) (hm : w.cell? ⟨0, 0, none⟩ = some (.int .i64 mx)) :
    Calls Tryz.prog 14 #[] w fun e w' => e = .returned (.bool true) ∧ Below w.heap.size w w' := by
  have kc := fun (w : World) (C : Array Value) (n c : Nat) => Lib.run_convert_bytes_const (P := Tryz.prog) w 25 5 C n c Tryz.underlying25 Tryz.underlying5
  have hb1 : Below w.heap.size w (w.alloc (.cells #[.int .u8 98] 5 (1, 2))) := (Below.refl _ _).alloc (Nat.le_refl _) _
  have hb2 : Below w.heap.size w ((w.alloc (.cells #[.int .u8 98] 5 (1, 2))).alloc (.cells #[.string ⟨#[97]⟩, .string ⟨#[102]⟩, .string ⟨#[]⟩, .slice (some ⟨w.heap.size, 0, none⟩) 1 1] 27)) := then_ hb1 ((Below.refl _ _).alloc (Nat.le_refl _) _)
  have hP := pbeg_row (w.alloc (.cells #[.int .u8 98] 5 (1, 2))) 27 w.heap.size (k := w.heap.size + 1) (by simp) (IsB.one w 98 _ _)
  have HW := Hid.mk' (writeK_any ⟨#[88]⟩ [⟨⟨#[97]⟩, ⟨#[102]⟩, ⟨#[]⟩, [98]⟩] _ _ 1 _ hP rfl (by decide) (fun p hp => by rw [List.mem_singleton.1 hp]; exact ⟨by decide, by decide, by decide, by decide⟩) (by decide) mx ((hb2.cell (World.block_lt_of_cell? w _ hm)).trans hm))
  have HB2 := Hid.mk' hb2
  clear hP hb1 hb2 hm
  go_enter Tryz.func14, Tryz.ntmps14
  go_wp2_with fail
  refine HW.out.mono ?_
  rintro e w1 hO
  have hpt : Pk.text (⟨#[88]⟩ : ByteArray).data.toList ([(⟨⟨#[97]⟩, ⟨#[102]⟩, ⟨#[]⟩, [98]⟩ : Fm.Pt)].map Pk.pp) = _ := pbeg_text
  cases hO with
  | bad c hr => rw [hpt] at hr; cases hr
  | good t hr ao cap n he hn hO hb =>
    rw [hpt] at hr
    injection hr with hr
    subst he; subst hn
    have hcv := hO.isB.str (P := Tryz.prog) 25 9 5 Tryz.underlying25 Tryz.underlying5 Tryz.underlying9
    have HB := Hid.mk' (then_ HB2.out hb)
    have h69 : t.length = 69 := by rw [← hr]; rfl
    have htx : (⟨t.toArray⟩ : ByteArray) = ⟨#[45, 45, 88, 13, 10, 67, 111, 110, 116, 101, 110, 116, 45, 68, 105, 115, 112, 111, 115, 105, 116, 105, 111, 110, 58, 32, 102, 111, 114, 109, 45, 100, 97, 116, 97, 59, 32, 110, 97, 109, 101, 61, 97, 59, 32, 102, 105, 108, 101, 110, 97, 109, 101, 61, 102, 13, 10, 13, 10, 98, 13, 10, 45, 45, 88, 45, 45, 13, 10]⟩ := by rw [← hr]
    rw [h69] at hcv
    clear hO hb HW hpt kc
    clear hr
    rw [h69]
    go_wp2
    go_ret
    exact ⟨rfl, HB.out⟩
end Go.Proofs.YtjpenioloeplgadGreatDoor

/- Plain laws of forms that are written: a code is never 0, and how long a text is. -/
namespace Go.Proofs.YtjpenioloeplgadGreatDoor.Pk

theorem txt_code : ∀ (ps : List Pm.Par) (acc : List UInt8) (seen : List Pm.Par) (c : Nat), Pm.txt acc seen ps = .inl c → c ≠ 0
  | [], acc, seen, c, h => by cases h
  | p :: t, acc, seen, c, h => by
    rw [Pm.txt] at h
    split at h
    · injection h with h; omega
    · split at h
      · injection h with h; omega
      · split at h
        · injection h with h; omega
        · exact txt_code t _ _ c h
theorem ptext_code {wd : List UInt8} {ps : List Pm.Par} {c : Nat} (h : Pm.text wd ps = .inl c) : c ≠ 0 := by
  unfold Pm.text at h
  split at h
  · injection h with h; omega
  · split at h
    · injection h with h; omega
    · exact txt_code _ _ _ _ h
theorem lines_code : ∀ (fs : List Rq.Fl) (c : Nat), Rq.lines fs = .inl c → c ≠ 0
  | [], c, h => by cases h
  | f :: r, c, h => by
    rw [Rq.lines] at h
    split at h
    · rename_i hc; injection h with h; rw [← h]; exact hc
    · split at h
      · rename_i c' hc'; injection h with h; rw [← h]; exact lines_code r c' hc'
      · cases h
theorem hd_code {p : Fm.Prt} {c : Nat} (h : head p = .inl c) : c ≠ 0 := by
  unfold head at h
  split at h
  · rename_i c' hc'; injection h with h; rw [← h]; exact ptext_code hc'
  · exact lines_code _ _ h
theorem all_code (b : List UInt8) : ∀ (l : List P) (acc : List UInt8) (c : Nat), all b acc l = .inl c → c ≠ 0
  | [], acc, c, h => by cases h
  | p :: t, acc, c, h => by
    by_cases hf : fault b p = 0
    · cases hh : head p.1 with
      | inl c' => rw [all_head hf hh] at h; injection h with h; rw [← h]; exact hd_code hh
      | inr x => rw [all_ok hf hh] at h; exact all_code b t _ c h
    · rw [all_fault hf] at h; injection h with h; rw [← h]; exact hf
theorem text_code {b : List UInt8} {l : List P} {c : Nat} (h : text b l = .inl c) : c ≠ 0 := by
  unfold text at h
  split at h
  · injection h with h; omega
  · split at h
    · injection h with h; omega
    · exact all_code _ _ _ _ h
theorem all_len (b : List UInt8) : ∀ (l : List P) (acc t : List UInt8), all b acc l = .inr t → t.length ≤ acc.length + l.length * (b.length + 412) + (l.map fun p => p.2.length).sum + b.length + 6
  | [], acc, t, h => by
    injection h with h
    rw [← h]
    simp
    omega
  | p :: r, acc, t, h => by
    by_cases hf : fault b p = 0
    · cases hh : head p.1 with
      | inl c' => rw [all_head hf hh] at h; cases h
      | inr x =>
        rw [all_ok hf hh] at h
        have ih := all_len b r _ t h
        have hx := head_len hh
        have hw : (acc ++ wrap b x p.2).length = acc.length + (b.length + x.length + p.2.length + 8) := by
          unfold wrap; simp; omega
        rw [hw] at ih
        rw [List.map_cons, List.sum_cons, List.length_cons, Nat.add_mul, Nat.one_mul]
        omega
    · rw [all_fault hf] at h; cases h
theorem text_len {b : List UInt8} {l : List P} {t : List UInt8} (h : text b l = .inr t) : t.length ≤ 6000 + (l.map fun p => p.2.length).sum := by
  obtain ⟨hm, h12, _⟩ := text_wrote h
  unfold text at h
  rw [if_neg (by rw [hm]; simp), if_neg (by omega)] at h
  have hb : b.length ≤ 70 := (isMark_facts hm).2
  have := all_len b l [] t h
  have h2 : l.length * (b.length + 412) ≤ 12 * 482 := Nat.mul_le_mul h12 (by omega)
  simp only [List.length_nil] at this
  omega
theorem pp_pt (l : List Fm.Pt) : (l.map pp).map pt = l := by
  rw [List.map_map]
  have : (pt ∘ pp) = id := funext fun p => pt_pp p
  rw [this, List.map_id]
theorem pp_sum (l : List Fm.Pt) : ((l.map pp).map fun p => p.2.length).sum = (l.map fun p => p.bytes.length).sum := by
  rw [List.map_map]; rfl
end Go.Proofs.YtjpenioloeplgadGreatDoor.Pk

/- Plain: how great parts are that are gathered. -/
namespace Go.Proofs.YtjpenioloeplgadGreatDoor.Pk
open Go.Proofs.YtjpenioloeplgadGreatDoor.Fm (Pt)
theorem laidA_few (G : List Pt) (e : EvD) : (laidA G e).length ≤ G.length + 1 := by
  unfold laidA
  split
  · simp
  · split
    · rcases List.eq_nil_or_concat G with rfl | ⟨q, p, rfl⟩
      · simp
      · rw [List.concat_eq_append]; simp
    · omega
theorem laidA_small (G : List Pt) (e : EvD) (B : Nat) (hG : ∀ p ∈ G, p.bytes.length ≤ B) (he : e.pbytes = []) : ∀ p ∈ laidA G e, p.bytes.length ≤ B + e.bytes.length := by
  intro p hp
  unfold laidA at hp
  split at hp
  · rcases List.mem_append.1 hp with h | h
    · have := hG p h; omega
    · rw [List.mem_singleton.1 h]; show e.pbytes.length ≤ _; rw [he]; simp
  · split at hp
    · rcases List.eq_nil_or_concat G with rfl | ⟨q, x, rfl⟩
      · simp at hp
      · rw [List.concat_eq_append] at hp hG
        simp only [List.dropLast_concat, List.getLast?_append, List.getLast?_singleton, Option.some_or, Option.map_some, Option.toList_some, List.mem_append, List.mem_singleton] at hp
        rcases hp with h | h
        · have := hG p (List.mem_append_left _ h); omega
        · rw [h]
          show (x.bytes ++ e.bytes).length ≤ _
          rw [List.length_append]
          have := hG x (by simp)
          omega
    · have := hG p hp; omega
theorem foldA : ∀ (l : List EvD) (G : List Pt) (B : Nat), (∀ p ∈ G, p.bytes.length ≤ B) → (∀ e ∈ l, e.pbytes = []) → (l.foldl laidA G).length ≤ G.length + l.length ∧ ∀ p ∈ l.foldl laidA G, p.bytes.length ≤ B + sumD l
  | [], G, B, hG, _ => ⟨by simp, fun p hp => by have := hG p hp; omega⟩
  | e :: r, G, B, hG, hl => by
    obtain ⟨h1, h2⟩ := foldA r (laidA G e) (B + e.bytes.length) (laidA_small G e B hG (hl e (by simp))) (fun x hx => hl x (by simp [hx]))
    have h3 := laidA_few G e
    rw [List.foldl_cons, List.length_cons, sumD]
    refine ⟨by omega, fun p hp => ?_⟩
    have := h2 p hp
    omega
theorem foldA_take (l : List EvD) (G : List Pt) (k : Nat) (hk : k < l.length) : (l.take (k + 1)).foldl laidA G = laidA ((l.take k).foldl laidA G) l[k] := by
  rw [List.take_succ_eq_append_getElem hk, List.foldl_append]; rfl
theorem gathA_append (a b : List EvD) : gathA (a ++ b) = b.foldl laidA (gathA a) := by unfold gathA; rw [List.foldl_append]
theorem laidA_part (G : List Pt) {e : EvD} (h : e.kind = 5) (hp : e.pbytes = []) : laidA G e = G ++ [⟨e.pname, e.pfile, e.ptype, []⟩] := by unfold laidA; rw [if_pos h, hp]
theorem laidA_more (q : List Pt) (p : Pt) {e : EvD} (h : e.kind = 2) : laidA (q ++ [p]) e = q ++ [{ p with bytes := p.bytes ++ e.bytes }] := by
  unfold laidA; rw [if_neg (by rw [h]; decide), if_pos h, List.dropLast_concat, List.getLast?_append]; rfl
theorem laidA_none {e : EvD} (h : e.kind = 2) : laidA [] e = [] := by unfold laidA; rw [if_neg (by rw [h]; decide), if_pos h]; rfl
theorem laidA_other (G : List Pt) {e : EvD} (h5 : e.kind ≠ 5) (h2 : e.kind ≠ 2) : laidA G e = G := by unfold laidA; rw [if_neg h5, if_neg h2]
end Go.Proofs.YtjpenioloeplgadGreatDoor.Pk
