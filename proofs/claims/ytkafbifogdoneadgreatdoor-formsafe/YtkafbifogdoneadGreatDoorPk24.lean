/- Small texts, one behind the other: FmK, FmLawS. -/
import Derived.Test.YtkafbifogdoneadGreatDoorPk23
import Derived.Test.YtkafbifogdoneadGreatDoorPk16
import Derived.Lib.SlBytesConst
import Derived.Test.YtkafbifogdoneadGreatDoorPk22
import Derived.Test.YtkafbifogdoneadGreatDoorPk6
import Derived.Test.YtkafbifogdoneadGreatDoorPk11
import Derived.Test.YtkafbifogdoneadGreatDoorPk9
import Derived.Deep.RegionHeld3
import Derived.Deep.DeepCutAuto
/- The laws' first look at package forms, walked: formBegun. -/
namespace Go.Proofs.YtkafbifogdoneadGreatDoor
open Go.RowKit

def fbegB : List UInt8 := [45, 45, 88, 13, 10, 67, 111, 110, 116, 101, 110, 116, 45, 68, 105, 115, 112, 111, 115, 105, 116, 105, 111, 110, 58, 32, 102, 111, 114, 109, 45, 100, 97, 116, 97, 59, 32, 110, 97, 109, 101, 61, 97, 13, 10, 13, 10, 98, 13, 10, 45, 45, 88, 45, 45]
theorem fbeg_close : Fm.close (Fm.fold (Fm.mark (⟨#[88]⟩ : ByteArray).data.toList) Fm.start fbegB) = 0 := by decide +kernel
theorem fbeg_gath : Fm.gath (joinD (Fm.outs (Fm.mark (⟨#[88]⟩ : ByteArray).data.toList) Fm.start fbegB)) = [⟨⟨#[97]⟩, ⟨#[]⟩, ⟨#[]⟩, [98]⟩] := by rfl
theorem fbeg_mark : Fm.isMark (⟨#[88]⟩ : ByteArray).data.toList = true := by decide +kernel
theorem fbeg_safe : Fm.safe (⟨#[47, 46, 46, 47, 46, 97, 34]⟩ : ByteArray).data.toList = [97, 95] := by decide +kernel
def fbegO : Obj := .cells #[.int .u8 45, .int .u8 45, .int .u8 88, .int .u8 13, .int .u8 10, .int .u8 67, .int .u8 111, .int .u8 110, .int .u8 116, .int .u8 101, .int .u8 110, .int .u8 116, .int .u8 45, .int .u8 68, .int .u8 105, .int .u8 115, .int .u8 112, .int .u8 111, .int .u8 115, .int .u8 105, .int .u8 116, .int .u8 105, .int .u8 111, .int .u8 110, .int .u8 58, .int .u8 32, .int .u8 102, .int .u8 111, .int .u8 114, .int .u8 109, .int .u8 45, .int .u8 100, .int .u8 97, .int .u8 116, .int .u8 97, .int .u8 59, .int .u8 32, .int .u8 110, .int .u8 97, .int .u8 109, .int .u8 101, .int .u8 61, .int .u8 97, .int .u8 13, .int .u8 10, .int .u8 13, .int .u8 10, .int .u8 98, .int .u8 13, .int .u8 10, .int .u8 45, .int .u8 45, .int .u8 88, .int .u8 45, .int .u8 45] 5 (55, 56)
theorem fbeg_row (W : World) : IsB (W.alloc fbegO) (some ⟨W.heap.size, 0, none⟩) 55 fbegB := by
  have h := IsV.made W #[.int .u8 45, .int .u8 45, .int .u8 88, .int .u8 13, .int .u8 10, .int .u8 67, .int .u8 111, .int .u8 110, .int .u8 116, .int .u8 101, .int .u8 110, .int .u8 116, .int .u8 45, .int .u8 68, .int .u8 105, .int .u8 115, .int .u8 112, .int .u8 111, .int .u8 115, .int .u8 105, .int .u8 116, .int .u8 105, .int .u8 111, .int .u8 110, .int .u8 58, .int .u8 32, .int .u8 102, .int .u8 111, .int .u8 114, .int .u8 109, .int .u8 45, .int .u8 100, .int .u8 97, .int .u8 116, .int .u8 97, .int .u8 59, .int .u8 32, .int .u8 110, .int .u8 97, .int .u8 109, .int .u8 101, .int .u8 61, .int .u8 97, .int .u8 13, .int .u8 10, .int .u8 13, .int .u8 10, .int .u8 98, .int .u8 13, .int .u8 10, .int .u8 45, .int .u8 45, .int .u8 88, .int .u8 45, .int .u8 45] 55 5 (55, 56)
  refine ⟨Nat.le_refl _, (fun e => by cases e), fun j hj => ⟨_, rfl, ?_⟩⟩
  refine h.cell ?_
  exact byteV_at fbegB j hj
/-- Read of them -/
theorem read_fbeg (w : World) (k : Nat) (hk : w.heap.size = k) :
    Calls Tryz.prog 13 #[.string ⟨#[88]⟩, .slice (some ⟨k, 0, none⟩) 55 55] (w.alloc (.cells #[.int .u8 45, .int .u8 45, .int .u8 88, .int .u8 13, .int .u8 10, .int .u8 67, .int .u8 111, .int .u8 110, .int .u8 116, .int .u8 101, .int .u8 110, .int .u8 116, .int .u8 45, .int .u8 68, .int .u8 105, .int .u8 115, .int .u8 112, .int .u8 111, .int .u8 115, .int .u8 105, .int .u8 116, .int .u8 105, .int .u8 111, .int .u8 110, .int .u8 58, .int .u8 32, .int .u8 102, .int .u8 111, .int .u8 114, .int .u8 109, .int .u8 45, .int .u8 100, .int .u8 97, .int .u8 116, .int .u8 97, .int .u8 59, .int .u8 32, .int .u8 110, .int .u8 97, .int .u8 109, .int .u8 101, .int .u8 61, .int .u8 97, .int .u8 13, .int .u8 10, .int .u8 13, .int .u8 10, .int .u8 98, .int .u8 13, .int .u8 10, .int .u8 45, .int .u8 45, .int .u8 88, .int .u8 45, .int .u8 45] 5 (55, 56))) fun e w' => ∃ b o cap bo bc, e = .returned (.tuple #[.slice (some ⟨b, o, none⟩) 1 cap, .int .i64 0]) ∧ (w'.cell? ⟨b, o, none⟩ = some (.string ⟨#[97]⟩) ∧ w'.cell? ⟨b, o + 3, none⟩ = some (.slice bo 1 bc) ∧ (convert 25 9 (.slice bo 1 bc)).run Tryz.prog w' = .ok (.string ⟨#[98]⟩) w') ∧ Below w.heap.size w w' := by
  subst hk
  have b1 : Below w.heap.size w (w.alloc fbegO) := (Below.refl _ _).alloc (Nat.le_refl _) _
  refine (read_any ⟨#[88]⟩ fbegB (some ⟨w.heap.size, 0, none⟩) 55 55 (w.alloc fbegO) (fbeg_row w) rfl (by decide)).mono ?_
  rintro e w' h
  cases h with
  | no c hc h he hb =>
    rcases h with ⟨h1, _⟩ | ⟨_, h1⟩
    · rw [fbeg_mark] at h1; cases h1
    · rw [fbeg_close] at h1; exact absurd h1.symm hc
  | yes hm h w1 ao cap n he hP hb =>
    rw [fbeg_gath] at hP
    obtain ⟨qs, hq, hO, hI⟩ := hP.own
    have hn : n = 1 := hP.len
    subst hn
    match qs, hq with
    | [q], hq =>
      obtain ⟨p, s⟩ := q
      have hp : p = ⟨⟨#[97]⟩, ⟨#[]⟩, ⟨#[]⟩, [98]⟩ := by simpa using hq
      subst hp
      have hB := hI _ (List.mem_singleton.2 rfl)
      have hB : IsB w1 s.bo s.bcap [98] := hB
      obtain ⟨b, rfl⟩ : ∃ b, ao = some ⟨b, 0, none⟩ := by
        rcases hO.2 with ⟨e, hx⟩ | ⟨g, cap', cur, e, _⟩
        · injection e with e e2 e3
          have := hO.isV.1
          omega
        · injection e with e; exact ⟨g, e⟩
      have c0 := (World.ownsRow.cellAt hO 0 (by decide)).trans (ptsV_at [(_, s)] 0 (Nat.lt_succ_self 0) 0 (by decide))
      have c3 := (World.ownsRow.cellAt hO 3 (by decide)).trans (ptsV_at [(_, s)] 0 (Nat.lt_succ_self 0) 3 (by decide))
      exact ⟨b, 0, cap, s.bo, s.bcap, he, ⟨c0, c3, (hB.stay hP.below).str (P := Tryz.prog) 25 9 5 Tryz.underlying25 Tryz.underlying5 Tryz.underlying9⟩, b1.trans (hb.mono b1.size)⟩

set_option maxRecDepth 100000 in
set_option maxHeartbeats 1600000 in
theorem formBegun_any (w : World) :
    Calls Tryz.prog 5 #[] w fun e w' => e = .returned (.bool true) ∧ Below w.heap.size w w' := by
  have kc := fun (w : World) (C : Array Value) (n c : Nat) => Lib.run_convert_bytes_const (P := Tryz.prog) w 25 5 C n c Tryz.underlying25 Tryz.underlying5
  have HF := Hid.mk' (read_fbeg w _ rfl)
  go_enter Tryz.func5, Tryz.ntmps5
  go_wp2_with fail
  refine HF.out.mono ?_
  rintro e w2 ⟨b, o, cap, bo, bc, rfl, ⟨c1, c2, c3⟩, hB⟩
  have HB := Hid.mk' hB
  have HS := Hid.mk' (safe_any ⟨#[47, 46, 46, 47, 46, 97, 34]⟩ w2 (by decide))
  rw [fbeg_safe] at HS
  clear hB HF
  go_wp2_with fail
  refine HS.out.mono ?_
  rintro e w3 ⟨rfl, hB3⟩
  have HB3 := Hid.mk' (then_ HB.out hB3)
  have HM := Hid.mk' (mark_any ⟨#[88]⟩ w3)
  rw [fbeg_mark] at HM
  clear hB3 HS c1 c2 c3 HB
  go_wp2_with fail
  refine HM.out.mono ?_
  rintro e w4 ⟨rfl, hB4⟩
  have HB4 := Hid.mk' (then_ HB3.out hB4)
  clear hB4 HB3 HM
  go_wp2
  go_ret
  exact ⟨rfl, HB4.out⟩
end Go.Proofs.YtkafbifogdoneadGreatDoor

/- FormSafe, walked: a name leads nowhere else. -/
namespace Go.Proofs.YtkafbifogdoneadGreatDoor
open Go.RowKit

/-- what Part answers: a file's name that is empty or safe -/
theorem partV_safe (x : Nat ⊕ Fm.Prt) (h : ∀ p, x = .inr p → p.file = [] ∨ Fm.Safe p.file) : ∃ (a b c : ByteArray) (d : Int), Fm.partV x = .tuple #[.agg #[.string a, .string b, .string c, .slice none 0 0], .int .i64 d] ∧ (b.data.toList = [] ∨ Fm.Safe b.data.toList) := by
  cases x with
  | inl c => exact ⟨_, _, _, _, rfl, Or.inl rfl⟩
  | inr p => exact ⟨_, _, _, _, rfl, h p rfl⟩
theorem safe_visible {n : List UInt8} (h : Fm.Safe n) : Ch.isVisible n = true := by
  unfold Ch.isVisible
  rw [List.all_eq_true]
  intro c hc
  have := (h.clean c hc).1
  unfold Fm.dirty at this
  simp only [Bool.or_eq_false_iff, Bool.not_eq_eq_eq_not, Bool.not_false] at this
  exact this.2
theorem safe_bytes {n : ByteArray} (h : Fm.Safe n.data.toList) (k : Nat) (hk : k < n.size) : (((n[k].toNat : Nat) : Int) == 47) = false ∧ (((n[k].toNat : Nat) : Int) == 92) = false ∧ (((n[k].toNat : Nat) : Int) == 9) = false ∧ (((n[k].toNat : Nat) : Int) == 34) = false ∧ (((n[k].toNat : Nat) : Int) == 58) = false := by
  have hm : n[k] ∈ n.data.toList := by rw [ByteArray.getElem_eq_getElem_data]; exact Array.mem_def.1 (Array.getElem_mem hk)
  obtain ⟨h1, h2⟩ := h.clean _ hm
  generalize n[k] = c at *
  unfold Fm.dirty at h1
  unfold Fm.stroke at h2
  simp only [Bool.or_eq_false_iff] at h1 h2
  have key : ∀ m : Nat, m < 256 → (c == m.toUInt8) = false → (((c.toNat : Nat) : Int) == (m : Int)) = false := fun m hm hc => by
    rw [beq_eq_false_iff_ne] at hc ⊢
    intro e
    refine hc ?_
    apply UInt8.toNat_inj.1
    have : m.toUInt8.toNat = m := by simp; omega
    rw [this]; omega
  exact ⟨key 47 (by omega) h2.1, key 92 (by omega) h2.2, key 9 (by omega) h1.1.1.1, key 34 (by omega) h1.1.1.2, key 58 (by omega) h1.1.2⟩
theorem safe_first {n : ByteArray} (h : Fm.Safe n.data.toList) : ∃ hk : 0 < n.size, (((n[0].toNat : Nat) : Int) == 46) = false := by
  have hl := Ch.len_list n
  have hp : 0 < n.size := by rw [← hl]; exact List.length_pos_iff.2 h.some_
  refine ⟨hp, ?_⟩
  rw [beq_eq_false_iff_ne]
  intro e
  refine h.dot ?_
  have e1 : n.data.toList.head? = some n[0] := by
    rw [List.head?_eq_getElem?, List.getElem?_eq_getElem (by omega)]
    simp [ByteArray.getElem_eq_getElem_data]
  rw [e1]
  congr 1
  apply UInt8.toNat_inj.1
  have : (46 : UInt8).toNat = 46 := rfl
  rw [this]; omega
/-- the box of a part -/
structure PBox (w w0 : World) (a b c : ByteArray) (W : World) : Prop where
  row : W.heap[w0.heap.size]? = some (.cells #[.string a, .string b, .string c, .slice none 0 0] 27 (0, 0))
  below : Below w.heap.size w W
theorem PBox.stay {w w0 W W' : World} {a b c : ByteArray} (h : PBox w w0 a b c W) (hb : Below W.heap.size W W') : PBox w w0 a b c W' := ⟨box_stay h.row hb, then_ h.below hb⟩
theorem PBox.c1 {w w0 W : World} {a b c : ByteArray} (h : PBox w w0 a b c W) : W.cell? ⟨w0.heap.size, 1, none⟩ = some (.string b) := cell_of_row W _ 1 _ _ _ h.row

set_option maxRecDepth 100000 in
set_option maxHeartbeats 4000000 in
theorem formSafe_any (s : ByteArray) (l : List (ByteArray × ByteArray)) (al : Option Addr) (cap : Nat) (w : World) (hl : IsV w al cap l.length (pairV l)) (zl : ∀ q ∈ l, q.1.size ≤ reachBytes ∧ q.2.size ≤ reachBytes) :
    Calls Tryz.prog 4 #[.string s, .slice al l.length cap] w fun e w' => e = .returned (.bool true) ∧ Below w.heap.size w w' := by
  have HGl : Hid (∀ W : World, Below w.heap.size w W → Calls Tryz.prog 6 #[.slice al l.length cap] W fun e w' => ∃ b : Bool, e = .returned (.bool b) ∧ (b = false → SmallF l) ∧ ∃ q, w' = W.drewN q) := fun W hb =>
    greatFields_any l al cap l.length W (hl.stay hb) rfl (fun p hp => by have := zl p hp; unfold reachBytes at this; unfold maxLen; omega)
  have HL := Hid.mk' hl
  clear hl zl
  go_enter Tryz.func4, Tryz.ntmps4
  go_wp2_with fail
  refine (formBegun_any _).mono ?_
  rintro e w1 ⟨rfl, hb1⟩
  have HB1 := Hid.mk' hb1
  clear hb1
  by_cases h1 : 2000 < s.size
  · have t1 : decide ((s.size : Int) > 2000) = true := by rw [decide_eq_true_eq]; omega
    go_wp2
    go_ret
    exact ⟨rfl, HB1.out⟩
  have t1 : decide ((s.size : Int) > 2000) = false := by rw [decide_eq_false_iff_not]; omega
  go_wp2_with fail
  refine (HGl.out _ HB1.out).mono ?_
  rintro e w2 ⟨b, rfl, hsm, q, hw⟩
  have HB2 : Hid (Below w.heap.size w w2) := by rw [hw]; exact then_ HB1.out (drewN_below ⟨q, rfl⟩)
  clear hw HGl HB1 t1
  cases b
  case true =>
    go_wp2
    go_ret
    exact ⟨rfl, HB2.out⟩
  have hS := hsm rfl
  clear hsm
  have HP := Hid.mk' (part_any l al cap l.length w2 (HL.out.stay HB2.out) rfl (by have := hS.1; omega) (fun p hp => by have := hS.2 p hp; omega))
  obtain ⟨a, f, c, d, hv, hf⟩ := partV_safe (Fm.part (Rq.flB l)) (fun p hp => Fm.part_safe hp)
  rw [hv] at HP
  have HF := Hid.mk' hf
  clear hS hv hf HL
  go_wp2_with fail
  refine HP.out.mono ?_
  rintro e w3 ⟨rfl, hb3⟩
  have HB3 := Hid.mk' (then_ HB2.out hb3)
  clear hb3 HP HB2
  go_upto_region 6 with fail
  have HX : Hid (PBox w w3 a f c (w3.alloc (.cells #[.string a, .string f, .string c, .slice none 0 0] 27))) := ⟨heap_alloc_new w3 _, HB3.out.alloc HB3.out.size _⟩
  have HSf : Hid (∀ W, Calls Tryz.prog 10 #[.string s] W fun e w' => e = .returned (.string ⟨(Fm.safe s.data.toList).toArray⟩) ∧ Below W.heap.size W w') := fun W => safe_any s W (by omega)
  have HSn : Hid (Fm.Safe (⟨(Fm.safe s.data.toList).toArray⟩ : ByteArray).data.toList) := Fm.safe_safe s.data.toList
  generalize (⟨(Fm.safe s.data.toList).toArray⟩ : ByteArray) = n0 at *
  go_cut [7] (fun v7 wd => ∃ g, v7 = .slice (some ⟨g, 0, none⟩) 2 2 ∧ IsV wd (some ⟨g, 0, none⟩) 2 2 (strV [n0, f]) ∧ Below w.heap.size w wd)
  case first =>
    have c1 := HX.out.c1
    go_region_held3 (fun w' => w'.cell? ⟨w3.heap.size, 1, none⟩ = some (.string f)) (go_keep) (first | (go_at_call 10; refine (HSf.out _).mono ?_; rintro e w5 ⟨rfl, hB⟩; have X5 := Hid.mk' ((HX.out.stay (below_drew _ _)).stay hB); have c1' := X5.out.c1; clear hB))
    all_goals
      go_wp2
      go_meet
      exact ⟨_, rfl, IsV.made w5 #[.string n0, .string f] 2 _ _, X5.out.below.alloc X5.out.below.size _⟩
  case rest =>
    obtain ⟨g, rfl, hI, hB⟩ := hcut
    have HI := Hid.mk' hI
    have HB := Hid.mk' hB
    clear hI hB HX HB3 HSf
    go_wp2
    go_loopw [8] (fun v8 wq => ∃ k : Nat, k ≤ 2 ∧ v8 = .int .i64 k ∧ IsV wq (some ⟨g, 0, none⟩) 2 2 (strV [n0, f]) ∧ Below w.heap.size w wq) (fun v8 _ => 2 - (intOf v8).toNat)
    case atStart => exact ⟨0, Nat.zero_le _, rfl, HI.out, HB.out⟩
    case round =>
      clear HI HB
      obtain ⟨k, hk, rfl, hI, hB⟩ := hrel
      have HI := Hid.mk' hI
      have HB := Hid.mk' hB
      clear hI hB
      by_cases hlt : k < 2
      · obtain ⟨n, hc, hcase⟩ : ∃ n : ByteArray, wr.cell? ⟨g, k, none⟩ = some (.string n) ∧ ((((k : Nat) : Int) == 1) = true ∧ (n.toList == []) = true ∨ Fm.Safe n.data.toList) := by
          have hcv := HI.out.cell (strV_at [n0, f] k (by simpa using hlt))
          rw [Addr.add_lit, Nat.zero_add] at hcv
          refine ⟨_, hcv, ?_⟩
          rcases (show k = 0 ∨ k = 1 by omega) with rfl | rfl
          · exact Or.inr HSn.out
          · rcases HF.out with h | h
            · exact Or.inl ⟨rfl, by rw [beq_iff_eq, Lib.toList_data]; exact h⟩
            · exact Or.inr h
        have hlt' : (k : Int) < 2 := by omega
        rcases hcase with ⟨tk, te⟩ | hs
        · go_wp2
          go_roundw
          case rel => exact ⟨k + 1, by omega, by go_num, HI.out, HB.out⟩
          case measure => simp [intOf]; omega
        · obtain ⟨hp, t46⟩ := safe_first hs
          have te : (n.toList == []) = false := by rw [beq_eq_false_iff_ne, Lib.toList_data]; exact hs.some_
          have hl40 := hs.short
          rw [Ch.len_list] at hl40
          have t40 : decide ((n.size : Int) > 40) = false := by rw [decide_eq_false_iff_not]; omega
          have HSf := Hid.mk' (safe_any n wr (by omega))
          rw [Fm.safe_again hs, show (⟨n.data.toList.toArray⟩ : ByteArray) = n by cases n; simp] at HSf
          have HSe : Hid (∀ W, Calls Tryz.prog 12 #[.string n] W fun e w' => e = .returned (.bool true) ∧ w' = W) := fun W => by
            have := seenText_any n W (by unfold maxLen; omega)
            rw [safe_visible hs] at this
            exact this
          have HS := Hid.mk' hs
          have hne : (n.toList == n.toList) = true := by rw [beq_iff_eq]
          clear hs
          cases htk : (((k : Nat) : Int) == 1)
          all_goals
            go_wp2_with fail
            refine HSf.out.mono ?_
            rintro e w5 ⟨rfl, hB5⟩
            have HI5 := Hid.mk' (HI.out.stay hB5)
            have HB5 := Hid.mk' (then_ HB.out hB5)
            clear hB5 HI HB HSf hc
            go_wp2_with fail
            refine (HSe.out _).mono ?_
            rintro e w6 ⟨rfl, hw⟩
            subst hw
            go_wp2
            clear t46 te t40 hne
            go_loop [10] (fun i => ∃ j : Nat, j ≤ n.size ∧ i = .int .i64 j) (fun i => n.size - (intOf i).toNat)
            case atStart => exact ⟨0, Nat.zero_le _, rfl⟩
            case round =>
              obtain ⟨j, hj, rfl⟩ := hrel
              by_cases hjl : j < n.size
              · obtain ⟨b1, b2, b3, b4, b5⟩ := safe_bytes HS.out j hjl
                go_wp2
                go_round
                case rel => exact ⟨j + 1, by omega, by go_num⟩
                case measure => simp [intOf]; omega
              · go_wp2
                go_roundw
                case rel => exact ⟨k + 1, by omega, by go_num, HI5.out, HB5.out⟩
                case measure => simp [intOf]; omega
      · go_wp2
        go_ret
        exact ⟨rfl, HB.out⟩
end Go.Proofs.YtkafbifogdoneadGreatDoor
