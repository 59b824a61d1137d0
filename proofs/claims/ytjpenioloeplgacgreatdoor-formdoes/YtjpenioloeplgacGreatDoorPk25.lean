/- Small texts, one behind the other: FsE, FsF, FsG, RfPart. -/
import Derived.Test.YtjpenioloeplgacGreatDoorPk19
import Derived.Test.YtjpenioloeplgacGreatDoorPk6
import Derived.Test.YtjpenioloeplgacGreatDoorPk24
import Derived.Test.YtjpenioloeplgacGreatDoorPk23
import Derived.Test.YtjpenioloeplgacGreatDoorFlB
import Derived.Test.YtjpenioloeplgacGreatDoorPk14
import Derived.Test.YtjpenioloeplgacGreatDoorRfMedia
import Derived.Test.YtjpenioloeplgacGreatDoorPk10
import Derived.Test.YtjpenioloeplgacGreatDoorPk12
import Derived.Deep.RegionHeld3
import Derived.Deep.DeepCutAuto
/- Package forms, walked: fileName, disposition. -/
namespace Go.Proofs.YtjpenioloeplgacGreatDoor
open Go.RowKit

theorem get_parL (name : ByteArray) : ∀ ps : List (ByteArray × ByteArray), (Pm_get name ps).map (fun x => x.data.toList) = Fm.get name.data.toList (parL ps)
  | [] => rfl
  | p :: t => by
    have ih := get_parL name t
    unfold Fm.get parL at *
    rw [List.map_cons, List.find?_cons]
    unfold Pm_get
    by_cases h : p.1.data.toList = name.data.toList
    · rw [if_pos h]
      have : ((p.1.data.toList, p.2.data.toList).1 == name.data.toList) = true := by simpa using h
      rw [this]; rfl
    · rw [if_neg h]
      have : ((p.1.data.toList, p.2.data.toList).1 == name.data.toList) = false := by simpa using h
      rw [this]; exact ih
theorem get_yes {name : ByteArray} {ps : List (ByteArray × ByteArray)} {x : ByteArray} (h : Pm_get name ps = some x) : Fm.get name.data.toList (parL ps) = some x.data.toList ∧ ∃ p ∈ ps, p.2 = x := by
  refine ⟨by rw [← get_parL, h]; rfl, ?_⟩
  induction ps with
  | nil => cases h
  | cons p t ih =>
    unfold Pm_get at h
    split at h
    · injection h with h; exact ⟨p, List.mem_cons_self .., h⟩
    · obtain ⟨q, hq, e⟩ := ih h; exact ⟨q, List.mem_cons_of_mem _ hq, e⟩
theorem get_no {name : ByteArray} {ps : List (ByteArray × ByteArray)} (h : Pm_get name ps = none) : Fm.get name.data.toList (parL ps) = none := by rw [← get_parL, h]; rfl
/-- the one value of a name's fields -/
theorem one_is (name low : ByteArray) (l : List (ByteArray × ByteArray)) (h : Ch.lower name.data.toList = low.data.toList) (h2 : Ch.lower low.data.toList = low.data.toList) : Fd.one (Fd.vals name l) = Fm.one (Rq.vals (Rq.flB l) low.data.toList) := by
  rw [Rq.vals_flB l low h2, Fd.vals_same name low l (h.trans h2.symm)]
  unfold Fd.one Fm.one
  match Fd.vals low l with
  | [] => rfl
  | [v] => rfl
  | _ :: _ :: _ => rfl
/-- a box stays -/
theorem box_stay {w W W' : World} {cs : Array Value} {t : Nat} (h : W.heap[w.heap.size]? = some (.cells cs t (0, 0))) (hb : Below W.heap.size W W') : W'.heap[w.heap.size]? = some (.cells cs t (0, 0)) := (hb.block _ (Array.getElem?_eq_some_iff.1 h).1).trans h

set_option maxRecDepth 100000 in
set_option maxHeartbeats 2000000 in
theorem fileName_any (word : ByteArray) (ps : List (ByteArray × ByteArray)) (ao : Option Addr) (cap n : Nat) (w : World) (hl : IsV w ao cap n (pairV ps)) (hn : ps.length = n) (hN : n ≤ 1000) (hz : ∀ p ∈ ps, p.2.size ≤ 100000) :
    Calls Tryz.prog 186 #[.agg #[.string word, .slice ao n cap]] w fun e w' => e = .returned (Fm.codedV (Fm.file (parL ps))) ∧ Below w.heap.size w w' := by
  have hb0 : Below w.heap.size w (w.alloc (.cells #[.string word, .slice ao n cap] 163)) := (Below.refl _ _).alloc (Nat.le_refl _) _
  have HG1 := Hid.mk' (getP_any word ps ⟨#[102, 105, 108, 101, 110, 97, 109, 101, 42]⟩ ao cap n _ (hl.stay hb0) hn (by omega) (fun p hp => by have := hz p hp; omega))
  have HG2 : Hid (∀ W, Below (w.alloc (.cells #[.string word, .slice ao n cap] 163)).heap.size (w.alloc (.cells #[.string word, .slice ao n cap] 163)) W → Calls Tryz.prog 185 #[.agg #[.string word, .slice ao n cap], .string ⟨#[102, 105, 108, 101, 110, 97, 109, 101]⟩] W fun e w' => e = .returned (.tuple #[.string ((Pm_get ⟨#[102, 105, 108, 101, 110, 97, 109, 101]⟩ ps).getD ⟨#[]⟩), .bool (Pm_get ⟨#[102, 105, 108, 101, 110, 97, 109, 101]⟩ ps).isSome]) ∧ Below W.heap.size W w') := fun W hW => getP_any word ps _ ao cap n W ((hl.stay hb0).stay hW) hn (by omega) (fun p hp => by have := hz p hp; omega)
  have HB0 := Hid.mk' hb0
  have HZ := Hid.mk' hz
  have HR0 := Hid.mk' (heap_alloc_new w (.cells #[.string word, .slice ao n cap] 163))
  clear hl hz hb0
  cases h1 : Pm_get ⟨#[102, 105, 108, 101, 110, 97, 109, 101, 42]⟩ ps with
  | some x =>
    obtain ⟨g1, p, hp, rfl⟩ := get_yes h1
    have hxz := HZ.out p hp
    rw [h1] at HG1
    have hF : Fm.file (parL ps) = (Fm.coded p.2.data.toList).map Fm.safe := by
      unfold Fm.file
      have : Fm.get Fm.nFstar (parL ps) = some p.2.data.toList := g1
      rw [this]
    have HF := Hid.mk' hF
    have HDc := Hid.mk' (fun W => decode_any p.2 W (by omega))
    clear h1 g1 hp hF
    cases hc : Fm.coded p.2.data.toList with
    | none =>
      rw [hc] at HDc HF
      clear hc
      go_enter Tryz.func186, Tryz.ntmps186
      go_wp2_with fail
      refine HG1.out.mono ?_
      rintro e w1 ⟨rfl, hb1⟩
      go_wp2_with fail
      refine (HDc.out _).mono ?_
      rintro e w2 ⟨rfl, hb2⟩
      unfold Fm.codedV
      have HBb := Hid.mk' (then_ (then_ HB0.out hb1) hb2)
      clear hb1 hb2
      go_wp2
      go_ret2
      exact ⟨by rw [HF.out]; rfl, HBb.out⟩
    | some y =>
      have hy := Fm.coded_len hc
      rw [Ch.len_list] at hy
      rw [hc] at HDc HF
      have HSf := Hid.mk' (fun W => safe_any ⟨y.toArray⟩ W (by show y.toArray.size ≤ _; rw [List.size_toArray]; omega))
      clear hc
      go_enter Tryz.func186, Tryz.ntmps186
      go_wp2_with fail
      refine HG1.out.mono ?_
      rintro e w1 ⟨rfl, hb1⟩
      go_wp2_with fail
      refine (HDc.out _).mono ?_
      rintro e w2 ⟨rfl, hb2⟩
      unfold Fm.codedV
      go_wp2_with fail
      refine (HSf.out _).mono ?_
      rintro e w3 ⟨rfl, hb3⟩
      have HBb := Hid.mk' (then_ (then_ (then_ HB0.out hb1) hb2) hb3)
      clear hb1 hb2 hb3
      go_wp2
      go_ret2
      exact ⟨by rw [HF.out]; rfl, HBb.out⟩
  | none =>
    have g1 := get_no h1
    rw [h1] at HG1
    clear h1
    cases h2 : Pm_get ⟨#[102, 105, 108, 101, 110, 97, 109, 101]⟩ ps with
    | some x =>
      obtain ⟨g2, p, hp, rfl⟩ := get_yes h2
      have hxz := HZ.out p hp
      rw [h2] at HG2
      have hF : Fm.file (parL ps) = some (Fm.safe p.2.data.toList) := by
        unfold Fm.file
        have e1 : Fm.get Fm.nFstar (parL ps) = none := g1
        have e2 : Fm.get Fm.nFname (parL ps) = some p.2.data.toList := g2
        rw [e1, e2]
      have HF := Hid.mk' hF
      have HSf := Hid.mk' (fun W => safe_any p.2 W (by omega))
      clear h2 g1 g2 hp hF
      go_enter Tryz.func186, Tryz.ntmps186
      go_wp2_with fail
      refine HG1.out.mono ?_
      rintro e w1 ⟨rfl, hb1⟩
      have hr1 := box_stay HR0.out hb1
      have c0 : w1.cell? ⟨w.heap.size, 0, none⟩ = some (.string word) := cell_of_row w1 _ 0 _ _ _ hr1
      have c1 : w1.cell? ⟨w.heap.size, 1, none⟩ = some (.slice ao n cap) := cell_of_row w1 _ 1 _ _ _ hr1
      have HB1 := Hid.mk' hb1
      clear hb1 hr1
      go_wp2_with fail
      refine (HG2.out _ HB1.out).mono ?_
      rintro e w2 ⟨rfl, hb2⟩
      go_wp2_with fail
      refine (HSf.out _).mono ?_
      rintro e w3 ⟨rfl, hb3⟩
      have HBb := Hid.mk' (then_ (then_ (then_ HB0.out HB1.out) hb2) hb3)
      clear hb2 hb3
      go_wp2
      go_ret2
      exact ⟨by rw [HF.out]; rfl, HBb.out⟩
    | none =>
      have g2 := get_no h2
      rw [h2] at HG2
      have hF : Fm.file (parL ps) = some [] := by
        unfold Fm.file
        have e1 : Fm.get Fm.nFstar (parL ps) = none := g1
        have e2 : Fm.get Fm.nFname (parL ps) = none := g2
        rw [e1, e2]
      have HF := Hid.mk' hF
      clear h2 g1 g2 hF
      go_enter Tryz.func186, Tryz.ntmps186
      go_wp2_with fail
      refine HG1.out.mono ?_
      rintro e w1 ⟨rfl, hb1⟩
      have hr1 := box_stay HR0.out hb1
      have c0 : w1.cell? ⟨w.heap.size, 0, none⟩ = some (.string word) := cell_of_row w1 _ 0 _ _ _ hr1
      have c1 : w1.cell? ⟨w.heap.size, 1, none⟩ = some (.slice ao n cap) := cell_of_row w1 _ 1 _ _ _ hr1
      have HB1 := Hid.mk' hb1
      clear hb1 hr1
      go_wp2_with fail
      refine (HG2.out _ HB1.out).mono ?_
      rintro e w2 ⟨rfl, hb2⟩
      have HBb := Hid.mk' (then_ (then_ HB0.out HB1.out) hb2)
      clear hb2
      go_wp2
      go_ret2
      exact ⟨by rw [HF.out]; rfl, HBb.out⟩
end Go.Proofs.YtjpenioloeplgacGreatDoor

/- Package forms, walked: disposition, Part. -/
namespace Go.Proofs.YtjpenioloeplgacGreatDoor
open Go.RowKit

def DispIs (m : Nat ⊕ List Pm.Par) (ps : List (ByteArray × ByteArray)) (code : Nat) : Prop :=
  match m with
  | .inl c => code = c ∧ c ≠ 0
  | .inr x => code = 0 ∧ parL ps = x
/-- what disposition answers -/
def DispOut (w : World) (m : Nat ⊕ List Pm.Par) (e : Ending) (w' : World) : Prop :=
  ∃ word ps ao cap, ∃ code : Nat, e = .returned (.tuple #[.agg #[.string word, .slice ao ps.length cap], .int .i64 (code : Int)]) ∧ DispIs m ps code ∧ OwnV w' w.heap.size 194 2 ao cap ps.length (pairV ps) ∧ Below w.heap.size w w'
theorem DispOut.bad {w w' : World} {m : Nat ⊕ List Pm.Par} {c : Nat} (hm : m = .inl c) (hc : c ≠ 0) (hb : Below w.heap.size w w') : DispOut w m (.returned (.tuple #[.agg #[.string ⟨#[]⟩, .slice none 0 0], .int .i64 (c : Int)])) w' := by
  subst hm
  exact ⟨⟨#[]⟩, [], none, 0, c, rfl, ⟨rfl, hc⟩, OwnV.nil _ _ _ _, hb⟩
def bDispo : ByteArray := ⟨#[67, 111, 110, 116, 101, 110, 116, 45, 68, 105, 115, 112, 111, 115, 105, 116, 105, 111, 110]⟩
def bType : ByteArray := ⟨#[67, 111, 110, 116, 101, 110, 116, 45, 84, 121, 112, 101]⟩
/-- the answer's place -/
structure ResM (w W : World) : Prop where
  row : W.heap[w.heap.size]? = some (.cells #[.string ⟨#[]⟩, .slice none 0 0] 163 (0, 0))
  below : Below w.heap.size w W
theorem ResM.stay {w W W' : World} (h : ResM w W) (hb : Below W.heap.size W W') : ResM w W' := ⟨box_stay h.row hb, then_ h.below hb⟩
theorem ResM.cells {w W : World} (h : ResM w W) : W.cell? ⟨w.heap.size, 0, none⟩ = some (.string ⟨#[]⟩) ∧ W.cell? ⟨w.heap.size, 1, none⟩ = some (.slice none 0 0) ∧ W.frozen? ⟨w.heap.size, 0, none⟩ = false ∧ W.frozen? ⟨w.heap.size, 1, none⟩ = false :=
  ⟨cell_of_row W _ 0 _ _ _ h.row, cell_of_row W _ 1 _ _ _ h.row, frozen_of_row W _ 0 _ _ h.row, frozen_of_row W _ 1 _ _ h.row⟩

set_option maxRecDepth 100000 in
set_option maxHeartbeats 2000000 in
theorem disposition_any (l : List (ByteArray × ByteArray)) (ao : Option Addr) (cap n : Nat) (w : World) (hl : IsV w ao cap n (pairV l)) (hn : l.length = n) (hN : n ≤ 1000) (hz : ∀ p ∈ l, p.1.size ≤ 2000 ∧ p.2.size ≤ 2000) :
    Calls Tryz.prog 184 #[.slice ao n cap] w fun e w' => DispOut w (Fm.disp (Fd.one (Fd.vals bDispo l))) e w' := by
  have hR0 : ResM w (w.alloc (.cells #[.string ⟨#[]⟩, .slice none 0 0] 163)) := ⟨heap_alloc_new w _, (Below.refl _ _).alloc (Nat.le_refl _) _⟩
  have HO := Hid.mk' (fdOne_any l bDispo ao cap n _ (hl.stay ((Below.refl _ _).alloc (Nat.le_refl _) (.cells #[.string ⟨#[]⟩, .slice none 0 0] 163))) hn (by omega) hz (by decide))
  have HR0 := Hid.mk' hR0
  have hd2 : (Fd.one (Fd.vals bDispo l)).1.length ≤ 2000 := by
    have hm : ∀ v ∈ Fd.vals bDispo l, v.size ≤ 2000 := fun v hv => by
      obtain ⟨p, hp, rfl⟩ := Fd.vals_mem hv
      exact (hz p hp).2
    unfold Fd.one
    split
    · exact Nat.zero_le _
    · rename_i v hv
      have := hm v (by rw [hv]; simp)
      rw [Ch.len_list]; exact this
    · exact Nat.zero_le _
  unfold txVal at HO
  unfold bDispo at HO
  clear hl hz hR0
  generalize hd : Fd.one (Fd.vals bDispo l) = d at *
  have hd' : Fd.one (Fd.vals ⟨#[67, 111, 110, 116, 101, 110, 116, 45, 68, 105, 115, 112, 111, 115, 105, 116, 105, 111, 110]⟩ l) = d := hd
  rw [hd'] at HO
  clear hd hd'
  by_cases h0 : d.2 = 0
  · have t0 : ((d.2 : Int) != 0) = false := by rw [h0]; rfl
    have HPs := Hid.mk' (fun W => parseP_any ⟨d.1.toArray⟩ W (by show d.1.toArray.size ≤ _; rw [List.size_toArray]; omega))
    have hdt : (⟨d.1.toArray⟩ : ByteArray).data.toList = d.1 := rfl
    rw [hdt] at HPs
    generalize (⟨d.1.toArray⟩ : ByteArray) = vt at *
    clear hdt
    cases hm : Pm.media d.1 with
    | inl c =>
      have hc := Fm.media_code hm
      have HD := Hid.mk' (Fm.disp_bad h0 hm)
      rw [hm] at HPs
      have tc : ((c : Int) != 0) = true := by rw [bne_iff_ne]; omega
      have HC := Hid.mk' hc
      clear hm hc h0
      go_enter Tryz.func184, Tryz.ntmps184
      go_wp2_with fail
      refine HO.out.mono ?_
      rintro e w1 ⟨rfl, hb1⟩
      have HR1 := Hid.mk' (HR0.out.stay hb1)
      clear hb1
      go_wp2_with fail
      refine (HPs.out w1).mono ?_
      rintro e w2 ⟨word, ps, ao2, cap2, code, rfl, ⟨rfl, hwd, hps⟩, hO2, hb2⟩
      have hR2 := (HR1.out.stay hb2).stay ((Below.refl _ _).alloc (Nat.le_refl _) (.cells #[.string word, .slice ao2 ps.length cap2] 163))
      obtain ⟨c0, c1, f0, f1⟩ := hR2.cells
      have HR2 := Hid.mk' hR2
      clear hb2 hR2 hwd hps hO2
      go_wp2
      refine bodyPost_ret (v := .tuple #[.agg #[.string ⟨#[]⟩, .slice none 0 0], .int .i64 (code : Int)]) (by simp [results, Tryz.results184, go_sem, c0, c1]) rfl (DispOut.bad HD.out HC.out ?_)
      first | exact HR2.out.below | exact (HR2.out.below.setCell (Nat.le_refl _) _).setCell (Nat.le_refl _) _
    | inr x =>
      by_cases hx : x.1 = Fm.nForm
      · have HD := Hid.mk' (Fm.disp_ok h0 hm hx)
        rw [hm] at HPs
        clear hm h0
        go_enter Tryz.func184, Tryz.ntmps184
        go_wp2_with fail
        refine HO.out.mono ?_
        rintro e w1 ⟨rfl, hb1⟩
        have HR1 := Hid.mk' (HR0.out.stay hb1)
        clear hb1
        go_wp2_with fail
        refine (HPs.out w1).mono ?_
        rintro e w2 ⟨word, ps, ao2, cap2, code, rfl, ⟨rfl, hwd, hps⟩, hO2, hb2⟩
        have hR2 := (HR1.out.stay hb2).stay ((Below.refl _ _).alloc (Nat.le_refl _) (.cells #[.string word, .slice ao2 ps.length cap2] 163))
        obtain ⟨c0, c1, f0, f1⟩ := hR2.cells
        have HR2 := Hid.mk' hR2
        have tw : (word.toList == [102, 111, 114, 109, 45, 100, 97, 116, 97]) = true := by
          rw [beq_iff_eq, Lib.toList_data, hwd, hx]; rfl
        have HPp := Hid.mk' hps
        have hz1 := HR1.out.below.size
        have hgt : w.heap.size < w1.heap.size := (Array.getElem?_eq_some_iff.1 HR1.out.row).1
        have HO3 := Hid.mk' ((hO2.mono (show w.heap.size ≤ w1.heap.size from hz1)).stay ((Below.refl _ _).alloc (Nat.le_refl _) (.cells #[.string word, .slice ao2 ps.length cap2] 163)))
        have HNe : Hid (∀ a, ao2 = some a → a.block ≠ w.heap.size) := fun a e => by have := (hO2.block a e).1; omega
        clear hb2 hR2 hwd hps hO2
        go_wp2
        refine bodyPost_ret (v := .tuple #[.agg #[.string word, .slice ao2 ps.length cap2], .int .i64 0]) (by simp [results, Tryz.results184, go_sem, c0, c1]) rfl ⟨word, ps, ao2, cap2, 0, rfl, ?_, ?_, ?_⟩
        · rw [HD.out]; exact ⟨rfl, HPp.out⟩
        · exact ((HO3.out.turns (Turns.setCell (fun k => k = w.heap.size) _ _ _ rfl) (fun a e => HNe.out a e)).turns (Turns.setCell (fun k => k = w.heap.size) _ _ _ rfl) (fun a e => HNe.out a e))
        · exact (HR2.out.below.setCell (Nat.le_refl _) _).setCell (Nat.le_refl _) _
      · have HD := Hid.mk' (Fm.disp_kind h0 hm hx)
        rw [hm] at HPs
        clear hm h0
        go_enter Tryz.func184, Tryz.ntmps184
        go_wp2_with fail
        refine HO.out.mono ?_
        rintro e w1 ⟨rfl, hb1⟩
        have HR1 := Hid.mk' (HR0.out.stay hb1)
        clear hb1
        go_wp2_with fail
        refine (HPs.out w1).mono ?_
        rintro e w2 ⟨word, ps, ao2, cap2, code, rfl, ⟨rfl, hwd, hps⟩, hO2, hb2⟩
        have hR2 := (HR1.out.stay hb2).stay ((Below.refl _ _).alloc (Nat.le_refl _) (.cells #[.string word, .slice ao2 ps.length cap2] 163))
        obtain ⟨c0, c1, f0, f1⟩ := hR2.cells
        have HR2 := Hid.mk' hR2
        have tw : (word.toList == [102, 111, 114, 109, 45, 100, 97, 116, 97]) = false := by
          rw [beq_eq_false_iff_ne, Lib.toList_data, hwd]; exact hx
        clear hb2 hR2 hwd hps hO2
        go_wp2
        refine bodyPost_ret (v := .tuple #[.agg #[.string ⟨#[]⟩, .slice none 0 0], .int .i64 11]) (by simp [results, Tryz.results184, go_sem, c0, c1]) rfl (DispOut.bad (c := 11) HD.out (by decide) ?_)
        first | exact HR2.out.below | exact (HR2.out.below.setCell (Nat.le_refl _) _).setCell (Nat.le_refl _) _
  · have t0 : ((d.2 : Int) != 0) = true := by rw [bne_iff_ne]; omega
    have HD : Hid (Fm.disp d = .inl d.2) := by unfold Hid Fm.disp; rw [if_pos h0]
    have H0 := Hid.mk' h0
    clear h0
    go_enter Tryz.func184, Tryz.ntmps184
    go_wp2_with fail
    refine HO.out.mono ?_
    rintro e w1 ⟨rfl, hb1⟩
    have hR1 := HR0.out.stay hb1
    obtain ⟨c0, c1, f0, f1⟩ := hR1.cells
    have HR1 := Hid.mk' hR1
    clear hb1 hR1
    go_wp2
    refine bodyPost_ret (v := .tuple #[.agg #[.string ⟨#[]⟩, .slice none 0 0], .int .i64 (d.2 : Int)]) (by simp [results, Tryz.results184, go_sem, c0, c1]) rfl (DispOut.bad HD.out H0.out ?_)
    first | exact HR1.out.below | exact (HR1.out.below.setCell (Nat.le_refl _) _).setCell (Nat.le_refl _) _
end Go.Proofs.YtjpenioloeplgacGreatDoor

/- Package forms, walked: Part. -/
namespace Go.Proofs.YtjpenioloeplgacGreatDoor
open Go.RowKit

/-- what Part answers, as a value -/
def Fm.partV : Nat ⊕ Fm.Prt → Value
  | .inl c => .tuple #[.agg #[.string ⟨#[]⟩, .string ⟨#[]⟩, .string ⟨#[]⟩, .slice none 0 0], .int .i64 (c : Int)]
  | .inr p => .tuple #[.agg #[.string ⟨p.name.toArray⟩, .string ⟨p.file.toArray⟩, .string ⟨p.type.toArray⟩, .slice none 0 0], .int .i64 0]
/-- the answer's place -/
structure ResP (w W : World) : Prop where
  row : W.heap[w.heap.size]? = some (.cells #[.string ⟨#[]⟩, .string ⟨#[]⟩, .string ⟨#[]⟩, .slice none 0 0] 30 (0, 0))
  below : Below w.heap.size w W
theorem ResP.stay {w W W' : World} (h : ResP w W) (hb : Below W.heap.size W W') : ResP w W' := ⟨box_stay h.row hb, then_ h.below hb⟩
theorem ResP.cells {w W : World} (h : ResP w W) : W.cell? ⟨w.heap.size, 0, none⟩ = some (.string ⟨#[]⟩) ∧ W.cell? ⟨w.heap.size, 1, none⟩ = some (.string ⟨#[]⟩) ∧ W.cell? ⟨w.heap.size, 2, none⟩ = some (.string ⟨#[]⟩) ∧ W.cell? ⟨w.heap.size, 3, none⟩ = some (.slice none 0 0) ∧ W.frozen? ⟨w.heap.size, 0, none⟩ = false ∧ W.frozen? ⟨w.heap.size, 1, none⟩ = false ∧ W.frozen? ⟨w.heap.size, 2, none⟩ = false ∧ W.frozen? ⟨w.heap.size, 3, none⟩ = false :=
  ⟨cell_of_row W _ 0 _ _ _ h.row, cell_of_row W _ 1 _ _ _ h.row, cell_of_row W _ 2 _ _ _ h.row, cell_of_row W _ 3 _ _ _ h.row, frozen_of_row W _ 0 _ _ h.row, frozen_of_row W _ 1 _ _ h.row, frozen_of_row W _ 2 _ _ h.row, frozen_of_row W _ 3 _ _ h.row⟩
theorem below4 {w W : World} (h : Below w.heap.size w W) (v0 v1 v2 v3 : Value) : Below w.heap.size w ((((W.setCell ⟨w.heap.size, 0, none⟩ v0).setCell ⟨w.heap.size, 1, none⟩ v1).setCell ⟨w.heap.size, 2, none⟩ v2).setCell ⟨w.heap.size, 3, none⟩ v3) :=
  (((h.setCell (Nat.le_refl _) _).setCell (Nat.le_refl _) _).setCell (Nat.le_refl _) _).setCell (Nat.le_refl _) _
theorem pair_len (ps : List (ByteArray × ByteArray)) : (parL ps).length = ps.length := parL_length ps

set_option maxRecDepth 100000 in
set_option maxHeartbeats 4000000 in
theorem part_by (l : List (ByteArray × ByteArray)) (ao : Option Addr) (cap n : Nat) (w : World) (hl : IsV w ao cap n (pairV l)) (hn : l.length = n) (hN : n ≤ 1000) (hz : ∀ p ∈ l, p.1.size ≤ 2000 ∧ p.2.size ≤ 2000) :
    Calls Tryz.prog 165 #[.slice ao n cap] w fun e w' => e = .returned (Fm.partV (Fm.partBy (Fd.one (Fd.vals bDispo l)) (Fd.one (Fd.vals bType l)))) ∧ Below w.heap.size w w' := by
  have hR0 : ResP w (w.alloc (.cells #[.string ⟨#[]⟩, .string ⟨#[]⟩, .string ⟨#[]⟩, .slice none 0 0] 30)) := ⟨heap_alloc_new w _, (Below.refl _ _).alloc (Nat.le_refl _) _⟩
  have HL : Hid (∀ W, Below w.heap.size w W → IsV W ao cap n (pairV l)) := fun W hW => hl.stay hW
  have HD := Hid.mk' (disposition_any l ao cap n _ (HL.out _ hR0.below) hn hN hz)
  have HTy : Hid (∀ W, Below w.heap.size w W → Calls Tryz.prog 187 #[.slice ao n cap, .string bType] W fun e w' => e = .returned (txVal (Fd.one (Fd.vals bType l))) ∧ Below W.heap.size W w') := fun W hW => fdOne_any l bType ao cap n W (HL.out W hW) hn (by omega) hz (by decide)
  have HR0 := Hid.mk' hR0
  have hd2 : (Fd.one (Fd.vals bDispo l)).1.length ≤ 2000 := by
    have hm : ∀ v ∈ Fd.vals bDispo l, v.size ≤ 2000 := fun v hv => by
      obtain ⟨p, hp, rfl⟩ := Fd.vals_mem hv
      exact (hz p hp).2
    unfold Fd.one
    split
    · exact Nat.zero_le _
    · rename_i v hv
      have := hm v (by rw [hv]; simp)
      rw [Ch.len_list]; exact this
    · exact Nat.zero_le _
  unfold txVal at HTy
  clear hl hz hR0 HL
  generalize Fd.one (Fd.vals bDispo l) = d at *
  generalize Fd.one (Fd.vals bType l) = t at *
  have hP := Fm.partBy_disp d t
  unfold bType at HTy
  cases hdi : Fm.disp d with
  | inl c =>
    rw [hdi] at HD hP
    have HP : Hid (Fm.partBy d t = .inl c) := hP
    clear hdi hP HTy
    go_enter Tryz.func165, Tryz.ntmps165
    go_wp2_with fail
    refine HD.out.mono ?_
    rintro e w1 ⟨word, ps, ao2, cap2, code, rfl, ⟨rfl, hc⟩, hO1, hb1⟩
    have tc : ((code : Int) != 0) = true := by rw [bne_iff_ne]; omega
    have hR1 := (HR0.out.stay hb1).stay ((Below.refl _ _).alloc (Nat.le_refl _) (.cells #[.string word, .slice ao2 ps.length cap2] 163))
    obtain ⟨c0, c1, c2, c3, f0, f1, f2, f3⟩ := hR1.cells
    have HR1 := Hid.mk' hR1
    clear hb1 hR1 hO1 hc
    go_wp2
    refine bodyPost_ret (v := .tuple #[.agg #[.string ⟨#[]⟩, .string ⟨#[]⟩, .string ⟨#[]⟩, .slice none 0 0], .int .i64 (code : Int)]) (by simp [results, Tryz.results165, go_sem, c0, c1, c2, c3]) rfl ⟨by rw [HP.out]; rfl, ?_⟩
    first | exact HR1.out.below | exact below4 HR1.out.below _ _ _ _
  | inr xs =>
    have hfew := Fm.disp_few hdi
    rw [hdi] at HD hP
    have hP : Fm.partBy d t = Fm.partOf xs t := hP
    clear hdi
    go_enter Tryz.func165, Tryz.ntmps165
    go_wp2_with fail
    refine HD.out.mono ?_
    rintro e w1 ⟨word, ps, ao2, cap2, code, rfl, ⟨rfl, hps⟩, hO1, hb1⟩
    subst hps
    obtain ⟨n2, hn2⟩ : ∃ n2, ps.length = n2 := ⟨_, rfl⟩
    rw [hn2] at hO1
    rw [hn2]
    have hn8 : n2 ≤ 8 := by rw [← hn2, ← parL_length]; exact hfew.1
    have hvz : ∀ p ∈ ps, p.2.size ≤ 2000 := fun p hp => by
      have := hfew.2 (p.1.data.toList, p.2.data.toList) (List.mem_map.2 ⟨p, hp, rfl⟩)
      have h2 : p.2.data.toList.length ≤ d.1.length := this
      rw [Ch.len_list] at h2; omega
    have hbM : Below w1.heap.size w1 (w1.alloc (.cells #[.string word, .slice ao2 n2 cap2] 163)) := (Below.refl _ _).alloc (Nat.le_refl _) _
    have hR1 := (HR0.out.stay hb1).stay hbM
    have hM1 := heap_alloc_new w1 (.cells #[.string word, .slice ao2 n2 cap2] 163)
    have hV1 := hO1.isV.stay hbM
    have HGn := Hid.mk' (getP_any word ps ⟨#[110, 97, 109, 101]⟩ ao2 cap2 n2 _ hV1 hn2 (by omega) (fun p hp => by have := hvz p hp; omega))
    have HFn : Hid (∀ W, Below (w1.alloc (.cells #[.string word, .slice ao2 n2 cap2] 163)).heap.size (w1.alloc (.cells #[.string word, .slice ao2 n2 cap2] 163)) W → Calls Tryz.prog 186 #[.agg #[.string word, .slice ao2 n2 cap2]] W fun e w' => e = .returned (Fm.codedV (Fm.file (parL ps))) ∧ Below W.heap.size W w') := fun W hW => fileName_any word ps ao2 cap2 n2 W (hV1.stay hW) hn2 (by omega) (fun p hp => by have := hvz p hp; omega)
    have HR1 := Hid.mk' hR1; have HM1 := Hid.mk' hM1; have HP := Hid.mk' hP; have HVz := Hid.mk' hvz
    clear hb1 hO1 hn2 hvz hbM hR1 hM1 hV1 hP hfew HD
    generalize hW1 : (w1.alloc (.cells #[.string word, .slice ao2 n2 cap2] 163)) = W1 at *
    have m0 : W1.cell? ⟨w1.heap.size, 0, none⟩ = some (.string word) := cell_of_row W1 _ 0 _ _ _ HM1.out
    have m1 : W1.cell? ⟨w1.heap.size, 1, none⟩ = some (.slice ao2 n2 cap2) := cell_of_row W1 _ 1 _ _ _ HM1.out
    cases hnm : Pm_get ⟨#[110, 97, 109, 101]⟩ ps with
    | none =>
      have g1 : Fm.get Fm.nName (parL ps) = none := get_no hnm
      rw [hnm] at HGn
      have HPn : Hid (Fm.partBy d t = .inl 6) := by unfold Hid; rw [HP.out]; unfold Fm.partOf; rw [g1]
      clear hnm g1 HP HFn HTy
      go_wp2_with fail
      refine HGn.out.mono ?_
      rintro e w3 ⟨rfl, hb3⟩
      have hR3 := HR1.out.stay hb3
      obtain ⟨c0, c1, c2, c3, f0, f1, f2, f3⟩ := hR3.cells
      have HR3 := Hid.mk' hR3
      clear hb3 hR3 hW1 m0 m1
      go_wp2
      refine bodyPost_ret (v := .tuple #[.agg #[.string ⟨#[]⟩, .string ⟨#[]⟩, .string ⟨#[]⟩, .slice none 0 0], .int .i64 6]) (by simp [results, Tryz.results165, go_sem, c0, c1, c2, c3]) rfl ⟨by rw [HPn.out]; rfl, ?_⟩
      first | exact HR3.out.below | exact below4 HR3.out.below _ _ _ _
    | some x =>
      obtain ⟨g1, _⟩ := get_yes hnm
      have g1 : Fm.get Fm.nName (parL ps) = some x.data.toList := g1
      rw [hnm] at HGn
      cases hfl : Fm.file (parL ps) with
      | none =>
        rw [hfl] at HFn
        have HPn : Hid (Fm.partBy d t = .inl 5) := by unfold Hid; rw [HP.out]; unfold Fm.partOf; rw [g1, hfl]
        clear hnm g1 HP HTy hfl
        go_wp2_with fail
        refine HGn.out.mono ?_
        rintro e w3 ⟨rfl, hb3⟩
        have HB3 := Hid.mk' hb3
        have hM3 := box_stay HM1.out hb3
        have n0 : w3.cell? ⟨w1.heap.size, 0, none⟩ = some (.string word) := cell_of_row w3 _ 0 _ _ _ hM3
        have n1 : w3.cell? ⟨w1.heap.size, 1, none⟩ = some (.slice ao2 n2 cap2) := cell_of_row w3 _ 1 _ _ _ hM3
        clear hb3 hM3 m0 m1 hW1
        go_wp2_with fail
        refine (HFn.out w3 HB3.out).mono ?_
        rintro e w4 ⟨rfl, hb4⟩
        unfold Fm.codedV
        have hR4 := (HR1.out.stay HB3.out).stay hb4
        obtain ⟨c0, c1, c2, c3, f0, f1, f2, f3⟩ := hR4.cells
        have HR4 := Hid.mk' hR4
        clear hb4 hR4 n0 n1
        go_wp2
        refine bodyPost_ret (v := .tuple #[.agg #[.string ⟨#[]⟩, .string ⟨#[]⟩, .string ⟨#[]⟩, .slice none 0 0], .int .i64 5]) (by simp [results, Tryz.results165, go_sem, c0, c1, c2, c3]) rfl ⟨by rw [HPn.out]; rfl, ?_⟩
        first | exact HR4.out.below | exact below4 HR4.out.below _ _ _ _
      | some f =>
        rw [hfl] at HFn
        have hP2 : Fm.partBy d t = if t.2 = 9 then .inl 9 else .inr ⟨x.data.toList, f, t.1⟩ := by rw [HP.out]; unfold Fm.partOf; rw [g1, hfl]
        clear hnm g1 HP hfl
        by_cases h9 : t.2 = 9
        · rw [if_pos h9] at hP2
          have HPn := Hid.mk' hP2
          have t9 : ((t.2 : Int) == 9) = true := by rw [h9]; rfl
          have HT9 := Hid.mk' h9
          clear hP2 h9
          go_wp2_with fail
          refine HGn.out.mono ?_
          rintro e w3 ⟨rfl, hb3⟩
          have HB3 := Hid.mk' hb3
          have hM3 := box_stay HM1.out hb3
          have n0 : w3.cell? ⟨w1.heap.size, 0, none⟩ = some (.string word) := cell_of_row w3 _ 0 _ _ _ hM3
          have n1 : w3.cell? ⟨w1.heap.size, 1, none⟩ = some (.slice ao2 n2 cap2) := cell_of_row w3 _ 1 _ _ _ hM3
          clear hb3 hM3 m0 m1 hW1
          go_wp2_with fail
          refine (HFn.out w3 HB3.out).mono ?_
          rintro e w4 ⟨rfl, hb4⟩
          unfold Fm.codedV
          have HR4 := Hid.mk' ((HR1.out.stay HB3.out).stay hb4)
          clear hb4 n0 n1
          go_wp2_with fail
          refine (HTy.out w4 HR4.out.below).mono ?_
          rintro e w5 ⟨rfl, hb5⟩
          have hR5 := HR4.out.stay hb5
          obtain ⟨c0, c1, c2, c3, f0, f1, f2, f3⟩ := hR5.cells
          have HR5 := Hid.mk' hR5
          clear hb5 hR5
          go_wp2
          refine bodyPost_ret (v := .tuple #[.agg #[.string ⟨#[]⟩, .string ⟨#[]⟩, .string ⟨#[]⟩, .slice none 0 0], .int .i64 (t.2 : Int)]) (by simp [results, Tryz.results165, go_sem, c0, c1, c2, c3]) rfl ⟨by rw [HPn.out, HT9.out]; rfl, ?_⟩
          first | exact HR5.out.below | exact below4 HR5.out.below _ _ _ _
        · rw [if_neg h9] at hP2
          have HPn := Hid.mk' hP2
          have t9 : ((t.2 : Int) == 9) = false := by rw [beq_eq_false_iff_ne]; omega
          clear hP2 h9
          go_wp2_with fail
          refine HGn.out.mono ?_
          rintro e w3 ⟨rfl, hb3⟩
          have HB3 := Hid.mk' hb3
          have hM3 := box_stay HM1.out hb3
          have n0 : w3.cell? ⟨w1.heap.size, 0, none⟩ = some (.string word) := cell_of_row w3 _ 0 _ _ _ hM3
          have n1 : w3.cell? ⟨w1.heap.size, 1, none⟩ = some (.slice ao2 n2 cap2) := cell_of_row w3 _ 1 _ _ _ hM3
          clear hb3 hM3 m0 m1 hW1
          go_wp2_with fail
          refine (HFn.out w3 HB3.out).mono ?_
          rintro e w4 ⟨rfl, hb4⟩
          unfold Fm.codedV
          have HR4 := Hid.mk' ((HR1.out.stay HB3.out).stay hb4)
          clear hb4 n0 n1
          go_wp2_with fail
          refine (HTy.out w4 HR4.out.below).mono ?_
          rintro e w5 ⟨rfl, hb5⟩
          have hR5 := HR4.out.stay hb5
          obtain ⟨c0, c1, c2, c3, f0, f1, f2, f3⟩ := hR5.cells
          have HR5 := Hid.mk' hR5
          clear hb5 hR5
          go_wp2
          refine bodyPost_ret (v := .tuple #[.agg #[.string x, .string ⟨f.toArray⟩, .string ⟨t.1.toArray⟩, .slice none 0 0], .int .i64 0]) (by simp [results, Tryz.results165, go_sem, c0, c1, c2, c3]) rfl ⟨by rw [HPn.out]; unfold Fm.partV; simp only [], ?_⟩
          exact below4 HR5.out.below _ _ _ _
/-- Part, by plain fields -/
theorem part_any (l : List (ByteArray × ByteArray)) (ao : Option Addr) (cap n : Nat) (w : World) (hl : IsV w ao cap n (pairV l)) (hn : l.length = n) (hN : n ≤ 1000) (hz : ∀ p ∈ l, p.1.size ≤ 2000 ∧ p.2.size ≤ 2000) :
    Calls Tryz.prog 165 #[.slice ao n cap] w fun e w' => e = .returned (Fm.partV (Fm.part (Rq.flB l))) ∧ Below w.heap.size w w' := by
  have h := part_by l ao cap n w hl hn hN hz
  rw [one_is bDispo ⟨Fm.nDisp.toArray⟩ l (by decide) (by decide), one_is bType ⟨Fm.nType.toArray⟩ l (by decide) (by decide)] at h
  exact h
end Go.Proofs.YtjpenioloeplgacGreatDoor

/- The document's own answer, walked: PartOf. -/
namespace Go.Proofs.YtjpenioloeplgacGreatDoor
open Go.RowKit

def rDispo : ByteArray := ⟨#[99, 111, 110, 116, 101, 110, 116, 45, 100, 105, 115, 112, 111, 115, 105, 116, 105, 111, 110]⟩
def rType : ByteArray := ⟨#[99, 111, 110, 116, 101, 110, 116, 45, 116, 121, 112, 101]⟩
theorem row_stay {W W' : World} {g : Nat} {o : Obj} (h : W.heap[g]? = some o) (hb : Below W.heap.size W W') : W'.heap[g]? = some o := (hb.block g (Array.getElem?_eq_some_iff.1 h).1).trans h
/-- the answer's place, the value's, and the part that grows -/
structure PoAt (w : World) (gm gp : Nat) (word nm f ty : ByteArray) (ao : Option Addr) (n cap : Nat) (ps : List (ByteArray × ByteArray)) (W : World) : Prop where
  res : W.heap[w.heap.size]? = some (.cells #[.string ⟨#[]⟩, .string ⟨#[]⟩, .string ⟨#[]⟩, .slice none 0 0] 30 (0, 0))
  med : W.heap[gm]? = some (.cells #[.string word, .slice ao n cap] 163 (0, 0))
  par : W.heap[gp]? = some (.cells #[.string nm, .string f, .string ty, .slice none 0 0] 30 (0, 0))
  row : IsV W ao cap n (pairV ps)
  far : w.heap.size < gm ∧ gm < gp ∧ ∀ a, ao = some a → a.block < gp
  below : Below w.heap.size w W
section
variable {w W W' : World} {gm gp : Nat} {word nm f ty : ByteArray} {ao : Option Addr} {n cap : Nat} {ps : List (ByteArray × ByteArray)}
theorem PoAt.stay (h : PoAt w gm gp word nm f ty ao n cap ps W) (hb : Below W.heap.size W W') : PoAt w gm gp word nm f ty ao n cap ps W' :=
  ⟨row_stay h.res hb, row_stay h.med hb, row_stay h.par hb, h.row.stay hb, h.far, then_ h.below hb⟩
theorem PoAt.file (h : PoAt w gm gp word nm f ty ao n cap ps W) (x : ByteArray) : PoAt w gm gp word nm x ty ao n cap ps (W.setCell ⟨gp, 1, none⟩ (.string x)) := by
  have hT := Turns.setCell (fun k => k = gp) W ⟨gp, 1, none⟩ (.string x) rfl
  obtain ⟨f1, f2, f3⟩ := h.far
  exact ⟨hT.row h.res (by omega), hT.row h.med (by omega), by rw [heap_setCell_same W gp 1 _ _ _ h.par]; rfl, h.row.turns hT (fun a e => by have := f3 a e; omega), h.far, h.below.setCell (show w.heap.size ≤ gp by omega) _⟩
theorem PoAt.type (h : PoAt w gm gp word nm f ty ao n cap ps W) (x : ByteArray) : PoAt w gm gp word nm f x ao n cap ps (W.setCell ⟨gp, 2, none⟩ (.string x)) := by
  have hT := Turns.setCell (fun k => k = gp) W ⟨gp, 2, none⟩ (.string x) rfl
  obtain ⟨f1, f2, f3⟩ := h.far
  exact ⟨hT.row h.res (by omega), hT.row h.med (by omega), by rw [heap_setCell_same W gp 2 _ _ _ h.par]; rfl, h.row.turns hT (fun a e => by have := f3 a e; omega), h.far, h.below.setCell (show w.heap.size ≤ gp by omega) _⟩
theorem PoAt.c (h : PoAt w gm gp word nm f ty ao n cap ps W) : W.cell? ⟨gm, 0, none⟩ = some (.string word) ∧ W.cell? ⟨gm, 1, none⟩ = some (.slice ao n cap) := ⟨cell_of_row W _ 0 _ _ _ h.med, cell_of_row W _ 1 _ _ _ h.med⟩
theorem PoAt.r (h : PoAt w gm gp word nm f ty ao n cap ps W) : ResP w W := ⟨h.res, h.below⟩
theorem PoAt.p (h : PoAt w gm gp word nm f ty ao n cap ps W) : W.cell? ⟨gp, 0, none⟩ = some (.string nm) ∧ W.cell? ⟨gp, 1, none⟩ = some (.string f) ∧ W.cell? ⟨gp, 2, none⟩ = some (.string ty) ∧ W.cell? ⟨gp, 3, none⟩ = some (.slice none 0 0) ∧ ∀ j, W.frozen? ⟨gp, j, none⟩ = false :=
  ⟨cell_of_row W _ 0 _ _ _ h.par, cell_of_row W _ 1 _ _ _ h.par, cell_of_row W _ 2 _ _ _ h.par, cell_of_row W _ 3 _ _ _ h.par, fun j => frozen_of_row W _ j _ _ h.par⟩
/-- ParamOf, by the plain parameters -/
theorem PoAt.get (h : PoAt w gm gp word nm f ty ao n cap ps W) (hn : ps.length = n) (hN : n ≤ 1000) (hz : ∀ p ∈ ps, p.2.size ≤ 2000) (name : ByteArray) :
    Calls Tryz.prog 108 #[.agg #[.string word, .slice ao n cap], .string name] W fun e w' => ∃ (y : ByteArray) (b : Bool), e = .returned (.tuple #[.string y, .bool b]) ∧ (if b = true then Fm.get name.data.toList (parL ps) = some y.data.toList ∧ y.size ≤ 2000 else Fm.get name.data.toList (parL ps) = none) ∧ Below W.heap.size W w' := by
  refine (paramOf_any word ps name ao cap n W h.row hn (by omega)).mono ?_
  rintro e w' ⟨rfl, hb⟩
  cases hg : Pm_get name ps with
  | none => exact ⟨_, false, rfl, get_no hg, hb⟩
  | some x =>
    obtain ⟨h1, p, hp, rfl⟩ := get_yes hg
    exact ⟨_, true, rfl, ⟨h1, hz p hp⟩, hb⟩
end
theorem rDispo_is (l : List (ByteArray × ByteArray)) : Fd.one (Fd.vals rDispo l) = Fm.one (Rq.vals (Rq.flB l) Fm.nDisp) := one_is rDispo ⟨Fm.nDisp.toArray⟩ l (by decide) (by decide)
theorem rType_is (l : List (ByteArray × ByteArray)) : Fd.one (Fd.vals rType l) = Fm.one (Rq.vals (Rq.flB l) Fm.nType) := one_is rType ⟨Fm.nType.toArray⟩ l (by decide) (by decide)
theorem one_short {vs : List ByteArray} (hm : ∀ v ∈ vs, v.size ≤ 2000) : (Fd.one vs).1.length ≤ 2000 := by
  unfold Fd.one
  split
  · exact Nat.zero_le _
  · rename_i v
    have := hm v (by simp)
    rw [Ch.len_list]; exact this
  · exact Nat.zero_le _

set_option maxRecDepth 100000 in
set_option maxHeartbeats 4000000 in
/-- ahead of the value's word -/
theorem partOf_early (l : List (ByteArray × ByteArray)) (ao : Option Addr) (cap n : Nat) (w : World) (hl : IsV w ao cap n (pairV l)) (hn : l.length = n) (hN : n ≤ 1000) (hz : ∀ p ∈ l, p.1.size ≤ 2000 ∧ p.2.size ≤ 2000) (c : Nat) (hd : Fm.disp (Fd.one (Fd.vals rDispo l)) = .inl c) :
    Calls Tryz.prog 73 #[.slice ao n cap] w fun e w' => e = .returned (Fm.partV (.inl c)) ∧ Below w.heap.size w w' := by
  have hR0 : ResP w (w.alloc (.cells #[.string ⟨#[]⟩, .string ⟨#[]⟩, .string ⟨#[]⟩, .slice none 0 0] 30)) := ⟨heap_alloc_new w _, (Below.refl _ _).alloc (Nat.le_refl _) _⟩
  have HO := Hid.mk' (oneOf_any l rDispo ao cap n _ (hl.stay hR0.below) hn (by omega) (fun p hp => (hz p hp).1) (by decide))
  have hd2 := one_short (vs := Fd.vals rDispo l) (fun v hv => by obtain ⟨p, hp, rfl⟩ := Fd.vals_mem hv; exact (hz p hp).2)
  have HR0 := Hid.mk' hR0
  unfold txVal at HO
  clear hl hz hR0
  generalize Fd.one (Fd.vals rDispo l) = d at *
  unfold rDispo at HO
  by_cases h0 : d.2 = 0
  · have t0 : ((d.2 : Int) != 0) = false := by rw [h0]; rfl
    have HPs := Hid.mk' (fun W => mediaOf_any ⟨d.1.toArray⟩ W (by show d.1.toArray.size ≤ _; rw [List.size_toArray]; omega))
    have hdt : (⟨d.1.toArray⟩ : ByteArray).data.toList = d.1 := rfl
    rw [hdt] at HPs
    generalize (⟨d.1.toArray⟩ : ByteArray) = vt at *
    clear hdt
    cases hm : Pm.media d.1 with
    | inl c' =>
      have hc := Fm.media_code hm
      have e := (Fm.disp_bad h0 hm).symm.trans hd
      injection e with e
      subst e
      rw [hm] at HPs
      have tc : ((c' : Int) != 0) = true := by rw [bne_iff_ne]; omega
      clear hm hc h0 hd
      go_enter Tryz.func73, Tryz.ntmps73
      go_wp2_with fail
      refine HO.out.mono ?_
      rintro e w1 ⟨rfl, hb1⟩
      have HR1 := Hid.mk' (HR0.out.stay hb1)
      clear hb1
      go_wp2_with fail
      refine (HPs.out w1).mono ?_
      rintro e w2 ⟨word, ps, ao2, cap2, code, rfl, ⟨rfl, hwd, hps⟩, hO2, hb2⟩
      have hR2 := (HR1.out.stay hb2).stay ((Below.refl _ _).alloc (Nat.le_refl _) (.cells #[.string word, .slice ao2 ps.length cap2] 163))
      obtain ⟨c0, c1, c2, c3, f0, f1, f2, f3⟩ := hR2.cells
      have HR2 := Hid.mk' hR2
      clear hb2 hR2 hwd hps hO2
      go_wp2
      refine bodyPost_ret (v := .tuple #[.agg #[.string ⟨#[]⟩, .string ⟨#[]⟩, .string ⟨#[]⟩, .slice none 0 0], .int .i64 (code : Int)]) (by simp [results, Tryz.results73, go_sem, c0, c1, c2, c3]) rfl ⟨rfl, ?_⟩
      first | exact HR2.out.below | exact below4 HR2.out.below _ _ _ _
    | inr x =>
      by_cases hx : x.1 = Fm.nForm
      · rw [Fm.disp_ok h0 hm hx] at hd; cases hd
      · have e := (Fm.disp_kind h0 hm hx).symm.trans hd
        injection e with e
        subst e
        rw [hm] at HPs
        clear hm h0 hd
        go_enter Tryz.func73, Tryz.ntmps73
        go_wp2_with fail
        refine HO.out.mono ?_
        rintro e w1 ⟨rfl, hb1⟩
        have HR1 := Hid.mk' (HR0.out.stay hb1)
        clear hb1
        go_wp2_with fail
        refine (HPs.out w1).mono ?_
        rintro e w2 ⟨word, ps, ao2, cap2, code, rfl, ⟨rfl, hwd, hps⟩, hO2, hb2⟩
        have hR2 := (HR1.out.stay hb2).stay ((Below.refl _ _).alloc (Nat.le_refl _) (.cells #[.string word, .slice ao2 ps.length cap2] 163))
        obtain ⟨c0, c1, c2, c3, f0, f1, f2, f3⟩ := hR2.cells
        have HR2 := Hid.mk' hR2
        have tw : (word.toList == [102, 111, 114, 109, 45, 100, 97, 116, 97]) = false := by
          rw [beq_eq_false_iff_ne, Lib.toList_data, hwd]; exact hx
        clear hb2 hR2 hwd hps hO2 hx
        go_wp2
        refine bodyPost_ret (v := .tuple #[.agg #[.string ⟨#[]⟩, .string ⟨#[]⟩, .string ⟨#[]⟩, .slice none 0 0], .int .i64 11]) (by simp [results, Tryz.results73, go_sem, c0, c1, c2, c3]) rfl ⟨rfl, ?_⟩
        first | exact HR2.out.below | exact below4 HR2.out.below _ _ _ _
  · have e : Fm.disp d = .inl d.2 := by unfold Fm.disp; rw [if_pos h0]
    have e := e.symm.trans hd
    injection e with e
    subst e
    have t0 : ((d.2 : Int) != 0) = true := by rw [bne_iff_ne]; omega
    clear hd
    go_enter Tryz.func73, Tryz.ntmps73
    go_wp2_with fail
    refine HO.out.mono ?_
    rintro e w1 ⟨rfl, hb1⟩
    have hR1 := HR0.out.stay hb1
    obtain ⟨c0, c1, c2, c3, f0, f1, f2, f3⟩ := hR1.cells
    have HR1 := Hid.mk' hR1
    clear hb1 hR1
    go_wp2
    refine bodyPost_ret (v := .tuple #[.agg #[.string ⟨#[]⟩, .string ⟨#[]⟩, .string ⟨#[]⟩, .slice none 0 0], .int .i64 (d.2 : Int)]) (by simp [results, Tryz.results73, go_sem, c0, c1, c2, c3]) rfl ⟨rfl, ?_⟩
    first | exact HR1.out.below | exact below4 HR1.out.below _ _ _ _
end Go.Proofs.YtjpenioloeplgacGreatDoor
