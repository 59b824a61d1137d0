/- Small texts, one behind the other: RqCln, RqClh, RqClo, RqJoin. -/
import Derived.Test.YtkafbifogdoneacGreatDoorSlClone
import Derived.Test.YtkafbifogdoneacGreatDoorPk18
import Derived.Test.YtkafbifogdoneacGreatDoorPk5
import Derived.Test.YtkafbifogdoneacGreatDoorPk6
import Derived.Deep.RegionHeld3
import Derived.Deep.DeepCutAuto
import Derived.Test.YtkafbifogdoneacGreatDoorPk9
import Derived.Test.YtkafbifogdoneacGreatDoorRqAdd
import Derived.Deep.RegionWith
import Derived.Test.YtkafbifogdoneacGreatDoorPk16
/- Package request, walked: clonePart. -/
namespace Go.Proofs.YtkafbifogdoneacGreatDoor
open Go.RowKit

/-- two blocks of the call's own, just behind world w -/
structure TwoAt (w : World) (r1 r2 : Obj) (W : World) : Prop where
  one : W.heap[w.heap.size]? = some r1
  two : W.heap[w.heap.size + 1]? = some r2
  below : Below w.heap.size w W
theorem TwoAt.stay {w W W' : World} {r1 r2 : Obj} (h : TwoAt w r1 r2 W) (hb : Below W.heap.size W W') : TwoAt w r1 r2 W' :=
  ⟨(hb.block _ (Array.getElem?_eq_some_iff.1 h.one).1).trans h.one, (hb.block _ (Array.getElem?_eq_some_iff.1 h.two).1).trans h.two, then_ h.below hb⟩
theorem TwoAt.cell {w W : World} {cs : Array Value} {t : Nat} {r2 : Obj} (h : TwoAt w (.cells cs t (0, 0)) r2 W) (j : Nat) : W.cell? ⟨w.heap.size, j, none⟩ = cs[j]? := cell_of_row W w.heap.size j _ _ _ h.one
theorem TwoAt.fz {w W : World} {cs : Array Value} {t : Nat} {r2 : Obj} (h : TwoAt w (.cells cs t (0, 0)) r2 W) (j : Nat) : W.frozen? ⟨w.heap.size, j, none⟩ = false := frozen_of_row W w.heap.size j _ _ h.one
theorem TwoAt.same {w W : World} {cs : Array Value} {t : Nat} {r2 : Obj} (h : TwoAt w (.cells cs t (0, 0)) r2 W) (j : Nat) (v : Value) (hv : cs.setIfInBounds j v = cs) : TwoAt w (.cells cs t (0, 0)) r2 (W.setCell ⟨w.heap.size, j, none⟩ v) := by
  have hT : Turns (fun k => k = w.heap.size) W (W.setCell ⟨w.heap.size, j, none⟩ v) := setCells_turns w.heap.size [v] j W
  refine ⟨by rw [heap_setCell_same W w.heap.size j _ _ _ h.one, hv], hT.row h.two (by omega), h.below.trans (hT.below (fun k e => by omega) h.below.size)⟩
theorem TwoAt.cell2 {w W : World} {cs : Array Value} {t : Nat} {r1 : Obj} (h : TwoAt w r1 (.cells cs t (0, 0)) W) (j : Nat) : W.cell? ⟨w.heap.size + 1, j, none⟩ = cs[j]? := cell_of_row W _ j _ _ _ h.two
theorem TwoAt.fz2 {w W : World} {cs : Array Value} {t : Nat} {r1 : Obj} (h : TwoAt w r1 (.cells cs t (0, 0)) W) (j : Nat) : W.frozen? ⟨w.heap.size + 1, j, none⟩ = false := frozen_of_row W _ j _ _ h.two
theorem TwoAt.put1 {w W : World} {cs : Array Value} {t : Nat} {r2 : Obj} (h : TwoAt w (.cells cs t (0, 0)) r2 W) (j : Nat) (v : Value) : TwoAt w (.cells (cs.setIfInBounds j v) t (0, 0)) r2 (W.setCell ⟨w.heap.size, j, none⟩ v) ∧ Turns (fun k => w.heap.size ≤ k ∧ k < w.heap.size + 2) W (W.setCell ⟨w.heap.size, j, none⟩ v) := by
  have hT : Turns (fun k => k = w.heap.size) W (W.setCell ⟨w.heap.size, j, none⟩ v) := setCells_turns w.heap.size [v] j W
  exact ⟨⟨by rw [heap_setCell_same W w.heap.size j _ _ _ h.one], hT.row h.two (by omega), h.below.trans (hT.below (fun k e => by omega) h.below.size)⟩, Turns.setCell _ W _ _ ⟨Nat.le_refl _, by show w.heap.size < _; omega⟩⟩
theorem TwoAt.put2 {w W : World} {cs : Array Value} {t : Nat} {r1 : Obj} (h : TwoAt w r1 (.cells cs t (0, 0)) W) (j : Nat) (v : Value) : TwoAt w r1 (.cells (cs.setIfInBounds j v) t (0, 0)) (W.setCell ⟨w.heap.size + 1, j, none⟩ v) ∧ Turns (fun k => w.heap.size ≤ k ∧ k < w.heap.size + 2) W (W.setCell ⟨w.heap.size + 1, j, none⟩ v) := by
  have hT : Turns (fun k => k = w.heap.size + 1) W (W.setCell ⟨w.heap.size + 1, j, none⟩ v) := setCells_turns (w.heap.size + 1) [v] j W
  exact ⟨⟨hT.row h.one (by omega), by rw [heap_setCell_same W (w.heap.size + 1) j _ _ _ h.two], h.below.trans (hT.below (fun k e => by omega) h.below.size)⟩, Turns.setCell _ W _ _ ⟨by show w.heap.size ≤ w.heap.size + 1; omega, by show w.heap.size + 1 < _; omega⟩⟩
theorem TwoAt.made (w : World) (cs ds : Array Value) (t u : Nat) : TwoAt w (.cells cs t (0, 0)) (.cells ds u (0, 0)) ((w.alloc (.cells cs t)).alloc (.cells ds u)) := by
  have b1 : Below w.heap.size w (w.alloc (.cells cs t)) := (Below.refl _ _).alloc (Nat.le_refl _) _
  have b2 : Below (w.alloc (.cells cs t)).heap.size (w.alloc (.cells cs t)) ((w.alloc (.cells cs t)).alloc (.cells ds u)) := (Below.refl _ _).alloc (Nat.le_refl _) _
  refine ⟨(b2.block w.heap.size (by simp)).trans (heap_alloc_new w _), ?_, then_ b1 b2⟩
  have := heap_alloc_new (w.alloc (.cells cs t)) (.cells ds u)
  rw [World.size_alloc] at this
  exact this
set_option maxRecDepth 100000 in
set_option maxHeartbeats 2000000 in
theorem clonePart_any (nm fl ty : ByteArray) (po : Option Addr) (pcap pn : Nat) (bs : List UInt8) (w : World) (hB : IsB w po pcap bs) (hn : bs.length = pn) (hN : pn ≤ 140737488355328) (h1 : nm.size ≤ 281474976710656) (h2 : fl.size ≤ 281474976710656) (h3 : ty.size ≤ 281474976710656) :
    Calls Tryz.prog 93 #[.agg #[.string nm, .string fl, .string ty, .slice po pn pcap]] w fun e w' => ∃ ao cap, e = .returned (.agg #[.string nm, .string fl, .string ty, .slice ao pn cap]) ∧ GrowB w' (fun k => w.heap.size ≤ k) 5 ao cap bs ∧ Below w.heap.size w w' := by
  have HC1 := Hid.mk' (fun W => sclone_great nm W h1); have HC2 := Hid.mk' (fun W => sclone_great fl W h2); have HC3 := Hid.mk' (fun W => sclone_great ty W h3)
  have HB := Hid.mk' hB; have HN := Hid.mk' hn
  clear hB hn
  go_enter Tryz.func93, Tryz.ntmps93
  go_upto_region 1 with fail
  have h0 : TwoAt w (.cells #[.string nm, .string fl, .string ty, .slice po pn pcap] 30 (0, 0)) (.cells #[.string ⟨#[]⟩, .string ⟨#[]⟩, .string ⟨#[]⟩, .slice none 0 0] 30 (0, 0)) _ := TwoAt.made w #[.string nm, .string fl, .string ty, .slice po pn pcap] #[.string ⟨#[]⟩, .string ⟨#[]⟩, .string ⟨#[]⟩, .slice none 0 0] 30 30
  have hx0 := h0.stay (below_drew _ _)
  have HX0 := Hid.mk' h0
  have HCl : Hid (∀ W, TwoAt w (.cells #[.string nm, .string fl, .string ty, .slice po pn pcap] 30 (0, 0)) (.cells #[.string ⟨#[]⟩, .string ⟨#[]⟩, .string ⟨#[]⟩, .slice none 0 0] 30 (0, 0)) W → W.cell? ⟨w.heap.size, 0, none⟩ = some (.string nm) ∧ W.cell? ⟨w.heap.size, 1, none⟩ = some (.string fl) ∧ W.cell? ⟨w.heap.size, 2, none⟩ = some (.string ty) ∧ W.frozen? ⟨w.heap.size, 0, none⟩ = false ∧ W.frozen? ⟨w.heap.size, 1, none⟩ = false ∧ W.frozen? ⟨w.heap.size, 2, none⟩ = false) := fun W h => ⟨h.cell 0, h.cell 1, h.cell 2, h.fz 0, h.fz 1, h.fz 2⟩
  obtain ⟨c0, c1, c2, f0, f1, f2⟩ := HCl.out _ h0
  clear h0
  go_cut [3] (fun _ wd => TwoAt w (.cells #[.string nm, .string fl, .string ty, .slice po pn pcap] 30 (0, 0)) (.cells #[.string ⟨#[]⟩, .string ⟨#[]⟩, .string ⟨#[]⟩, .slice none 0 0] 30 (0, 0)) wd)
  case first =>
    go_region_held3 (fun w' => w'.cell? ⟨w.heap.size, 0, none⟩ = some (.string nm) ∧ w'.cell? ⟨w.heap.size, 1, none⟩ = some (.string fl) ∧ w'.cell? ⟨w.heap.size, 2, none⟩ = some (.string ty) ∧ w'.frozen? ⟨w.heap.size, 0, none⟩ = false ∧ w'.frozen? ⟨w.heap.size, 1, none⟩ = false ∧ w'.frozen? ⟨w.heap.size, 2, none⟩ = false) (first | (refine HCl.out _ ?_; (repeat (refine TwoAt.same ?_ _ _ rfl)); assumption) | go_keep) (first
      | (go_at_call 102; (first | refine (HC1.out _).mono ?_ | refine (HC2.out _).mono ?_ | refine (HC3.out _).mono ?_); rintro e w2 ⟨rfl, hbs⟩; have hxs := TwoAt.stay (w := w) (by assumption) hbs; obtain ⟨d0, d1, d2, f0, f1, f2⟩ := HCl.out w2 hxs))
    all_goals (go_wp2; go_meet; (repeat (refine TwoAt.same ?_ _ _ rfl)); assumption)
  case rest =>
    have HT := Hid.mk' hcut
    have c3 : wc.cell? ⟨w.heap.size, 3, none⟩ = some (.slice po pn pcap) := hcut.cell 3
    have HCb := Hid.mk' (cloneBytes_any bs po pcap pn wc (HB.out.stay hcut.below) HN.out hN)
    clear hcut c0 c1 c2 f0 f1 f2 hx0 HX0 HCl
    go_wp2_with fail
    refine HCb.out.mono ?_
    rintro e w5 ⟨ao, cap, rfl, hO, hb5⟩
    have h5 := HT.out.stay hb5
    have HO := Hid.mk' hO; have H5 := Hid.mk' h5
    have d0 := h5.cell 0; have d1 := h5.cell 1; have d2 := h5.cell 2; have d3 := h5.cell 3
    have f0 := h5.fz 0; have f1 := h5.fz 1; have f2 := h5.fz 2; have f3 := h5.fz 3
    have g0 := h5.fz2 0; have g1 := h5.fz2 1; have g2 := h5.fz2 2; have g3 := h5.fz2 3
    have e0 := h5.cell2 0; have e1 := h5.cell2 1; have e2 := h5.cell2 2; have e3 := h5.cell2 3
    simp at d0 d1 d2 d3 e0 e1 e2 e3
    clear hO h5 hb5 HCb
    go_wp2
    have hsz : w.heap.size + 2 ≤ wc.heap.size := (Array.getElem?_eq_some_iff.1 HT.out.two).1
    obtain ⟨a1, t1⟩ := H5.out.put1 3 (.slice ao pn cap)
    obtain ⟨a2, t2⟩ := a1.put2 0 (.string nm)
    obtain ⟨a3, t3⟩ := a2.put2 1 (.string fl)
    obtain ⟨a4, t4⟩ := a3.put2 2 (.string ty)
    obtain ⟨a5, t5⟩ := a4.put2 3 (.slice ao pn cap)
    have hno : ∀ k, wc.heap.size ≤ k → ¬ (w.heap.size ≤ k ∧ k < w.heap.size + 2) := fun k e h => by omega
    have hO6 := ((((HO.out.turns t1 hno).turns t2 hno).turns t3 hno).turns t4 hno).turns t5 hno
    generalize (((((w5.setCell ⟨w.heap.size, 3, none⟩ (Value.slice ao pn cap)).setCell ⟨w.heap.size + 1, 0, none⟩ (Value.string nm)).setCell ⟨w.heap.size + 1, 1, none⟩ (Value.string fl)).setCell ⟨w.heap.size + 1, 2, none⟩ (Value.string ty)).setCell ⟨w.heap.size + 1, 3, none⟩ (Value.slice ao pn cap)) = w6 at a5 hO6 ⊢
    have r0 : w6.cell? ⟨w.heap.size + 1, 0, none⟩ = some (.string nm) := a5.cell2 0
    have r1 : w6.cell? ⟨w.heap.size + 1, 1, none⟩ = some (.string fl) := a5.cell2 1
    have r2 : w6.cell? ⟨w.heap.size + 1, 2, none⟩ = some (.string ty) := a5.cell2 2
    have r3 : w6.cell? ⟨w.heap.size + 1, 3, none⟩ = some (.slice ao pn cap) := a5.cell2 3
    refine bodyPost_ret (v := .agg #[.string nm, .string fl, .string ty, .slice ao pn cap]) (by simp [results, Tryz.results93, go_sem, r0, r1, r2, r3]) rfl ⟨ao, cap, rfl, hO6.mono (fun k _ e => by omega), a5.below⟩
end Go.Proofs.YtkafbifogdoneacGreatDoor

/- Package request, walked: cloneHead. -/
namespace Go.Proofs.YtkafbifogdoneacGreatDoor
open Go.RowKit

/-- the head's box and the result block, and the row of fields that is cloned -/
structure ClAt (w : World) (m t : ByteArray) (mi ln : Int) (l : List (ByteArray × ByteArray)) (ao : Option Addr) (cap : Nat) (W : World) : Prop where
  two : TwoAt w (.cells #[.string m, .string t, .int .i64 mi, .slice ao l.length cap, .int .i64 ln] 25 (0, 0)) (.cells #[.string ⟨#[]⟩, .string ⟨#[]⟩, .int .i64 0, .slice none 0 0, .int .i64 0] 25 (0, 0)) W
  row : OwnV W (w.heap.size + 2) 51 2 ao cap l.length (pairV l)
section
variable {w : World} {m t : ByteArray} {mi ln : Int} {l : List (ByteArray × ByteArray)} {ao : Option Addr} {cap : Nat} {W W' : World}
theorem ClAt.stay (h : ClAt w m t mi ln l ao cap W) (hb : Below W.heap.size W W') : ClAt w m t mi ln l ao cap W' := ⟨h.two.stay hb, h.row.stay hb⟩
theorem set_here {xs : List Value} {j : Nat} {u : Value} (h : xs[j]? = some u) : xs.set j u = xs := by
  obtain ⟨hj, e⟩ := List.getElem?_eq_some_iff.1 h
  rw [← e]; exact List.set_getElem_self hj
/-- a pair laid in its own place -/
theorem ClAt.put {g i : Nat} (h : ClAt w m t mi ln l (some ⟨g, 0, none⟩) cap W) (hi : i < l.length) : ClAt w m t mi ln l (some ⟨g, 0, none⟩) cap ((W.setCell ⟨g, i * 2, none⟩ (.string l[i].1)).setCell ⟨g, i * 2 + 1, none⟩ (.string l[i].2)) := by
  have hg : w.heap.size + 2 ≤ g := (h.row.block _ rfl).1
  have hp := pairV_at l i hi
  have r1 := (World.ownsRow.stored h.row (i * 2) (.string l[i].1)).1
  rw [set_here hp.1] at r1
  have r2 := (World.ownsRow.stored r1 (i * 2 + 1) (.string l[i].2)).1
  rw [set_here hp.2] at r2
  have hT : Turns (fun k => k = g) W ((W.setCell ⟨g, i * 2, none⟩ (.string l[i].1)).setCell ⟨g, i * 2 + 1, none⟩ (.string l[i].2)) := setCells_turns g [.string l[i].1, .string l[i].2] (i * 2) W
  exact ⟨⟨hT.row h.two.one (by omega), hT.row h.two.two (by omega), h.two.below.trans (hT.below (fun k e => by omega) h.two.below.size)⟩, r2⟩
/-- and, behind it, a field's own block -/
structure FrAt (w : World) (m t : ByteArray) (mi ln : Int) (l : List (ByteArray × ByteArray)) (ao : Option Addr) (cap k : Nat) (p : ByteArray × ByteArray) (W : World) : Prop where
  cl : ClAt w m t mi ln l ao cap W
  one : W.heap[k]? = some (.cells #[.string p.1, .string p.2] 51 (0, 0))
theorem FrAt.stay {k : Nat} {p : ByteArray × ByteArray} (h : FrAt w m t mi ln l ao cap k p W) (hb : Below W.heap.size W W') : FrAt w m t mi ln l ao cap k p W' := ⟨h.cl.stay hb, (hb.block _ (Array.getElem?_eq_some_iff.1 h.one).1).trans h.one⟩
end
set_option maxRecDepth 100000 in
set_option maxHeartbeats 4000000 in
theorem cloneHead_any (m t : ByteArray) (mi ln : Int) (l : List (ByteArray × ByteArray)) (fo : Option Addr) (fcap n : Nat) (w : World) (hl : IsV w fo fcap n (pairV l)) (hn : l.length = n) (hN : n * 32 ≤ 140737488355328) (h1 : m.size ≤ 281474976710656) (h2 : t.size ≤ 281474976710656) (h3 : ∀ p ∈ l, p.1.size ≤ 281474976710656 ∧ p.2.size ≤ 281474976710656) :
    Calls Tryz.prog 92 #[.agg #[.string m, .string t, .int .i64 mi, .slice fo n fcap, .int .i64 ln]] w fun e w' => ∃ ao cap, e = .returned (.agg #[.string m, .string t, .int .i64 mi, .slice ao n cap, .int .i64 ln]) ∧ IsVS w' (fun k => w.heap.size ≤ k) ao cap n (pairV l) ∧ Below w.heap.size w w' := by
  subst hn
  have HC1 := Hid.mk' (fun W => sclone_great m W h1); have HC2 := Hid.mk' (fun W => sclone_great t W h2)
  have HL := Hid.mk' hl; have H3 := Hid.mk' h3
  have hn47 : l.length ≤ 140737488355328 := by omega
  have HN := Hid.mk' hN
  clear hl h1 h2 h3 hN
  go_enter Tryz.func92, Tryz.ntmps92
  go_upto_region 1 with fail
  have h0 : TwoAt w (.cells #[.string m, .string t, .int .i64 mi, .slice fo l.length fcap, .int .i64 ln] 25 (0, 0)) (.cells #[.string ⟨#[]⟩, .string ⟨#[]⟩, .int .i64 0, .slice none 0 0, .int .i64 0] 25 (0, 0)) _ := TwoAt.made w #[.string m, .string t, .int .i64 mi, .slice fo l.length fcap, .int .i64 ln] #[.string ⟨#[]⟩, .string ⟨#[]⟩, .int .i64 0, .slice none 0 0, .int .i64 0] 25 25
  have hx0 := h0.stay (below_drew _ _)
  have HX0 := Hid.mk' h0
  have HCl : Hid (∀ W, TwoAt w (.cells #[.string m, .string t, .int .i64 mi, .slice fo l.length fcap, .int .i64 ln] 25 (0, 0)) (.cells #[.string ⟨#[]⟩, .string ⟨#[]⟩, .int .i64 0, .slice none 0 0, .int .i64 0] 25 (0, 0)) W → W.cell? ⟨w.heap.size, 0, none⟩ = some (.string m) ∧ W.cell? ⟨w.heap.size, 1, none⟩ = some (.string t) ∧ W.frozen? ⟨w.heap.size, 0, none⟩ = false ∧ W.frozen? ⟨w.heap.size, 1, none⟩ = false) := fun W h => ⟨h.cell 0, h.cell 1, h.fz 0, h.fz 1⟩
  obtain ⟨c0, c1, f0, f1⟩ := HCl.out _ h0
  clear h0
  go_cut [5] (fun _ wd => TwoAt w (.cells #[.string m, .string t, .int .i64 mi, .slice fo l.length fcap, .int .i64 ln] 25 (0, 0)) (.cells #[.string ⟨#[]⟩, .string ⟨#[]⟩, .int .i64 0, .slice none 0 0, .int .i64 0] 25 (0, 0)) wd)
  case first =>
    go_region_held3 (fun w' => w'.cell? ⟨w.heap.size, 0, none⟩ = some (.string m) ∧ w'.cell? ⟨w.heap.size, 1, none⟩ = some (.string t) ∧ w'.frozen? ⟨w.heap.size, 0, none⟩ = false ∧ w'.frozen? ⟨w.heap.size, 1, none⟩ = false) (first | (refine HCl.out _ ?_; (repeat (refine TwoAt.same ?_ _ _ rfl)); assumption) | go_keep) (first
      | (go_at_call 102; (first | refine (HC1.out _).mono ?_ | refine (HC2.out _).mono ?_); rintro e w2 ⟨rfl, hbs⟩; have hxs := TwoAt.stay (w := w) (by assumption) hbs; obtain ⟨d0, d1, f0, f1⟩ := HCl.out w2 hxs))
    all_goals (go_wp2; go_meet; (repeat (refine TwoAt.same ?_ _ _ rfl)); assumption)
  case rest =>
    have HT := Hid.mk' hcut
    have c3 : wc.cell? ⟨w.heap.size, 3, none⟩ = some (.slice fo l.length fcap) := hcut.cell 3
    have HCf := Hid.mk' (cloneFields_great l fo fcap l.length wc (HL.out.stay hcut.below) rfl HN.out)
    clear hcut c0 c1 f0 f1 hx0 HX0 HCl HC1 HC2
    go_wp2_with fail
    refine HCf.out.mono ?_
    rintro e w5 ⟨ao, cap, rfl, hO, hb5⟩
    have h5 := HT.out.stay hb5
    have hsz : w.heap.size + 2 ≤ wc.heap.size := (Array.getElem?_eq_some_iff.1 HT.out.two).1
    have f3 := h5.fz 3
    have d3 : w5.cell? ⟨w.heap.size, 3, none⟩ = some (.slice fo l.length fcap) := h5.cell 3
    obtain ⟨a1, t1⟩ := h5.put1 3 (.slice ao l.length cap)
    have hO6 := (hO.turns t1 (fun a e k => by have := (hO.block a e).1; omega)).mono (base' := w.heap.size + 2) (by omega)
    have HA : Hid (ClAt w m t mi ln l ao cap (w5.setCell ⟨w.heap.size, 3, none⟩ (.slice ao l.length cap))) := ⟨a1, hO6⟩
    clear hO hb5 h5 a1 t1 hO6 HCf hsz c3
    go_wp2
    go_loopw [20] (fun vi wr => ∃ i : Nat, i ≤ l.length ∧ vi = .int .i64 i ∧ ClAt w m t mi ln l ao cap wr) (fun vi _ => l.length - (intOf vi).toNat)
    case atStart => exact ⟨0, Nat.zero_le _, rfl, HA.out⟩
    case round =>
      clear HA d3 f3 HT
      obtain ⟨i, hi, rfl, hA⟩ := hrel
      have HA := Hid.mk' hA
      clear hA
      by_cases hlt : i < l.length
      · have hlt' : (i : Int) < l.length := by omega
        obtain ⟨g, rfl⟩ : ∃ g, ao = some ⟨g, 0, none⟩ := by
          rcases HA.out.row.2 with ⟨_, h⟩ | ⟨g, cap, cur, h, _⟩
          · omega
          · injection h with h _ _; exact ⟨g, h⟩
        have hcap := HA.out.row.isV.1
        have HP := Hid.mk' (HA.out.put hlt)
        have HPt : Hid (∀ W, ClAt w m t mi ln l (some ⟨g, 0, none⟩) cap W → ClAt w m t mi ln l (some ⟨g, 0, none⟩) cap ((W.setCell ⟨g, i * 2, none⟩ (.string l[i].1)).setCell ⟨g, i * 2 + 1, none⟩ (.string l[i].2))) := fun W h => h.put hlt
        have H3i := H3.out l[i] (List.getElem_mem hlt)
        have HS1 := Hid.mk' (fun W => sclone_great l[i].1 W H3i.1); have HS2 := Hid.mk' (fun W => sclone_great l[i].2 W H3i.2)
        have HF : Hid (∀ W, ClAt w m t mi ln l (some ⟨g, 0, none⟩) cap W → W.cell? ⟨w.heap.size, 3, none⟩ = some (.slice (some ⟨g, 0, none⟩) l.length cap) ∧ W.cell? ⟨g, i * 2, none⟩ = some (.string l[i].1) ∧ W.cell? ⟨g, i * 2 + 1, none⟩ = some (.string l[i].2) ∧ W.frozen? ⟨g, i * 2, none⟩ = false ∧ W.frozen? ⟨g, i * 2 + 1, none⟩ = false) := fun W h => by
          have hp := pairV_at l i hlt
          exact ⟨h.two.cell 3, (World.ownsRow.cellAt h.row (i * 2) (by omega)).trans hp.1, (World.ownsRow.cellAt h.row (i * 2 + 1) (by omega)).trans hp.2, World.ownsRow.frozenAt h.row _, World.ownsRow.frozenAt h.row _⟩
        obtain ⟨b3, e0, e1, g0, g1⟩ := HF.out wr HA.out
        clear H3i HP
        generalize l[i] = p at *
        go_upto_region 6 with fail
        have h0 : FrAt w m t mi ln l (some ⟨g, 0, none⟩) cap wr.heap.size p (wr.alloc (.cells #[.string p.1, .string p.2] 51)) := ⟨HA.out.stay ((Below.refl _ _).alloc (Nat.le_refl _) _), heap_alloc_new wr _⟩
        have hx0 := h0.stay (below_drew _ _)
        have HF2 : Hid (∀ W, FrAt w m t mi ln l (some ⟨g, 0, none⟩) cap wr.heap.size p W → W.cell? ⟨w.heap.size, 3, none⟩ = some (.slice (some ⟨g, 0, none⟩) l.length cap) ∧ W.cell? ⟨g, i * 2, none⟩ = some (.string p.1) ∧ W.cell? ⟨g, i * 2 + 1, none⟩ = some (.string p.2) ∧ W.frozen? ⟨g, i * 2, none⟩ = false ∧ W.frozen? ⟨g, i * 2 + 1, none⟩ = false ∧ W.cell? ⟨wr.heap.size, 0, none⟩ = some (.string p.1) ∧ W.cell? ⟨wr.heap.size, 1, none⟩ = some (.string p.2)) := fun W h => by
          obtain ⟨x1, x2, x3, x4, x5⟩ := HF.out W h.cl
          exact ⟨x1, x2, x3, x4, x5, cell_of_row W _ 0 _ _ _ h.one, cell_of_row W _ 1 _ _ _ h.one⟩
        obtain ⟨x1, x2, x3, x4, x5, x6, x7⟩ := HF2.out _ h0
        have HPf : Hid (∀ W, FrAt w m t mi ln l (some ⟨g, 0, none⟩) cap wr.heap.size p W → FrAt w m t mi ln l (some ⟨g, 0, none⟩) cap wr.heap.size p ((W.setCell ⟨g, i * 2, none⟩ (.string p.1)).setCell ⟨g, i * 2 + 1, none⟩ (.string p.2))) := fun W h => by
          have hg : g < wr.heap.size := (HA.out.row.block _ rfl).2
          have hT : Turns (fun k => k = g) W ((W.setCell ⟨g, i * 2, none⟩ (.string p.1)).setCell ⟨g, i * 2 + 1, none⟩ (.string p.2)) := setCells_turns g [.string p.1, .string p.2] (i * 2) W
          exact ⟨HPt.out _ h.cl, hT.row h.one (by omega)⟩
        clear h0 b3 e0 e1 g0 g1 HA HF
        go_region_held3 (fun w' => w'.cell? ⟨w.heap.size, 3, none⟩ = some (.slice (some ⟨g, 0, none⟩) l.length cap) ∧ w'.cell? ⟨g, i * 2, none⟩ = some (.string p.1) ∧ w'.cell? ⟨g, i * 2 + 1, none⟩ = some (.string p.2) ∧ w'.frozen? ⟨g, i * 2, none⟩ = false ∧ w'.frozen? ⟨g, i * 2 + 1, none⟩ = false ∧ w'.cell? ⟨wr.heap.size, 0, none⟩ = some (.string p.1) ∧ w'.cell? ⟨wr.heap.size, 1, none⟩ = some (.string p.2)) (first | (refine HF2.out _ ?_; first | assumption | (refine HPf.out _ ?_; assumption)) | go_keep) (first
          | (go_at_call 102; (first | refine (HS1.out _).mono ?_ | refine (HS2.out _).mono ?_); rintro e w2 ⟨rfl, hbs⟩; have hxs := FrAt.stay (w := w) (by assumption) hbs; obtain ⟨x1, x2, x3, x4, x5, x6, x7⟩ := HF2.out w2 hxs))
        have HC := Hid.mk' (HPt.out w2 (FrAt.cl (by assumption)))
        clear hx0 HF2 HPt HPf HS1 HS2
        generalize ((w2.setCell ⟨g, i * 2, none⟩ (Value.string p.1)).setCell ⟨g, i * 2 + 1, none⟩ (Value.string p.2)) = w9 at *
        go_wp2
        go_roundw
        case rel => exact ⟨i + 1, by omega, by go_num, HC.out⟩
        case measure => simp [intOf]; omega
      · obtain rfl : i = l.length := by omega
        have h5 := HA.out.two
        have d0 : wr.cell? ⟨w.heap.size, 0, none⟩ = some (.string m) := h5.cell 0
        have d1 : wr.cell? ⟨w.heap.size, 1, none⟩ = some (.string t) := h5.cell 1
        have d2 : wr.cell? ⟨w.heap.size, 2, none⟩ = some (.int .i64 mi) := h5.cell 2
        have d3 : wr.cell? ⟨w.heap.size, 3, none⟩ = some (.slice ao l.length cap) := h5.cell 3
        have d4 : wr.cell? ⟨w.heap.size, 4, none⟩ = some (.int .i64 ln) := h5.cell 4
        have g0 := h5.fz2 0; have g1 := h5.fz2 1; have g2 := h5.fz2 2; have g3 := h5.fz2 3; have g4 := h5.fz2 4
        have e0 := h5.cell2 0; have e1 := h5.cell2 1; have e2 := h5.cell2 2; have e3 := h5.cell2 3; have e4 := h5.cell2 4
        simp at e0 e1 e2 e3 e4
        clear h5
        go_wp2
        obtain ⟨a1, t1⟩ := HA.out.two.put2 0 (.string m)
        obtain ⟨a2, t2⟩ := a1.put2 1 (.string t)
        obtain ⟨a3, t3⟩ := a2.put2 2 (.int .i64 mi)
        obtain ⟨a4, t4⟩ := a3.put2 3 (.slice ao l.length cap)
        obtain ⟨a5, t5⟩ := a4.put2 4 (.int .i64 ln)
        have hno : ∀ a, ao = some a → ¬ (w.heap.size ≤ a.block ∧ a.block < w.heap.size + 2) := fun a e k => by have := (HA.out.row.block a e).1; omega
        have hO6 := ((((HA.out.row.turns t1 hno).turns t2 hno).turns t3 hno).turns t4 hno).turns t5 hno
        generalize (((((wr.setCell ⟨w.heap.size + 1, 0, none⟩ (Value.string m)).setCell ⟨w.heap.size + 1, 1, none⟩ (Value.string t)).setCell ⟨w.heap.size + 1, 2, none⟩ (Value.int .i64 mi)).setCell ⟨w.heap.size + 1, 3, none⟩ (Value.slice ao l.length cap)).setCell ⟨w.heap.size + 1, 4, none⟩ (Value.int .i64 ln)) = w6 at a5 hO6 ⊢
        have r0 : w6.cell? ⟨w.heap.size + 1, 0, none⟩ = some (.string m) := a5.cell2 0
        have r1 : w6.cell? ⟨w.heap.size + 1, 1, none⟩ = some (.string t) := a5.cell2 1
        have r2 : w6.cell? ⟨w.heap.size + 1, 2, none⟩ = some (.int .i64 mi) := a5.cell2 2
        have r3 : w6.cell? ⟨w.heap.size + 1, 3, none⟩ = some (.slice ao l.length cap) := a5.cell2 3
        have r4 : w6.cell? ⟨w.heap.size + 1, 4, none⟩ = some (.int .i64 ln) := a5.cell2 4
        refine bodyPost_ret (v := .agg #[.string m, .string t, .int .i64 mi, .slice ao l.length cap, .int .i64 ln]) (by simp [results, Tryz.results92, go_sem, r0, r1, r2, r3, r4]) rfl ⟨ao, cap, rfl, ⟨hO6.isV, fun _ a e => by have := (hO6.block a e).1; omega⟩, a5.below⟩
end Go.Proofs.YtkafbifogdoneacGreatDoor

/- Package request, walked: clone. -/
namespace Go.Proofs.YtkafbifogdoneacGreatDoor
open Go.RowKit

def setsA : Array Value → Nat → List Value → Array Value
  | xs, _, [] => xs
  | xs, o, v :: r => setsA (xs.setIfInBounds o v) (o + 1) r
theorem TwoAt.puts {w : World} {t : Nat} {r2 : Obj} : ∀ (vs : List Value) (o : Nat) (W : World) (cs : Array Value), TwoAt w (.cells cs t (0, 0)) r2 W → TwoAt w (.cells (setsA cs o vs) t (0, 0)) r2 (W.setCells w.heap.size o vs)
  | [], _, _, _, h => h
  | v :: r, o, _, _, h => TwoAt.puts r (o + 1) _ _ (h.put1 o v).1
theorem TwoAt.puts2 {w : World} {t : Nat} {r1 : Obj} : ∀ (vs : List Value) (o : Nat) (W : World) (cs : Array Value), TwoAt w r1 (.cells cs t (0, 0)) W → TwoAt w r1 (.cells (setsA cs o vs) t (0, 0)) (W.setCells (w.heap.size + 1) o vs)
  | [], _, _, _, h => h
  | v :: r, o, _, _, h => TwoAt.puts2 r (o + 1) _ _ (h.put2 o v).1
/-- what is cloned by now: its head and its part -/
structure CloAt (w : World) (e : EvD) (s : EvS) (fo po : Option Addr) (fcap pcap : Nat) (W : World) : Prop where
  two : TwoAt w (.cells #[.int .i64 e.kind, .string e.method, .string e.target, .int .i64 e.minor, .slice fo e.fields.length fcap, .int .i64 e.length, .slice s.bo e.bytes.length s.bcap, .string e.pname, .string e.pfile, .string e.ptype, .slice po e.pbytes.length pcap, .int .i64 e.code] 32 (0, 0)) (.cells #[.int .i64 0, .string ⟨#[]⟩, .string ⟨#[]⟩, .int .i64 0, .slice none 0 0, .int .i64 0, .slice none 0 0, .string ⟨#[]⟩, .string ⟨#[]⟩, .string ⟨#[]⟩, .slice none 0 0, .int .i64 0] 32 (0, 0)) W
  fields : IsVS W (fun k => w.heap.size + 2 ≤ k) fo fcap e.fields.length (pairV e.fields)
  pbytes : IsBS W (fun k => w.heap.size + 2 ≤ k) po pcap e.pbytes
/-- both are laid into the box -/
theorem CloAt.of {w : World} {e : EvD} {s : EvS} {fo po : Option Addr} {fcap pcap : Nat} {W : World} (h : TwoAt w (.cells #[.int .i64 e.kind, .string e.method, .string e.target, .int .i64 e.minor, .slice s.fo e.fields.length s.fcap, .int .i64 e.length, .slice s.bo e.bytes.length s.bcap, .string e.pname, .string e.pfile, .string e.ptype, .slice s.po e.pbytes.length s.pcap, .int .i64 e.code] 32 (0, 0)) (.cells #[.int .i64 0, .string ⟨#[]⟩, .string ⟨#[]⟩, .int .i64 0, .slice none 0 0, .int .i64 0, .slice none 0 0, .string ⟨#[]⟩, .string ⟨#[]⟩, .string ⟨#[]⟩, .slice none 0 0, .int .i64 0] 32 (0, 0)) W) (hf : IsVS W (fun k => w.heap.size + 2 ≤ k) fo fcap e.fields.length (pairV e.fields)) (hp : IsBS W (fun k => w.heap.size + 2 ≤ k) po pcap e.pbytes) :
    CloAt w e s fo po fcap pcap ((W.setCells w.heap.size 1 [.string e.method, .string e.target, .int .i64 e.minor, .slice fo e.fields.length fcap, .int .i64 e.length]).setCells w.heap.size 7 [.string e.pname, .string e.pfile, .string e.ptype, .slice po e.pbytes.length pcap]) := by
  have hT := (setCells_turns w.heap.size [.string e.method, .string e.target, .int .i64 e.minor, .slice fo e.fields.length fcap, .int .i64 e.length] 1 W).trans (setCells_turns w.heap.size [.string e.pname, .string e.pfile, .string e.ptype, .slice po e.pbytes.length pcap] 7 _) (fun _ k _ => k)
  have h2 := TwoAt.puts [.string e.pname, .string e.pfile, .string e.ptype, .slice po e.pbytes.length pcap] 7 _ _ (TwoAt.puts [.string e.method, .string e.target, .int .i64 e.minor, .slice fo e.fields.length fcap, .int .i64 e.length] 1 _ _ h)
  simp [setsA] at h2
  exact ⟨h2, hf.turns hT (fun k a b => by omega), hp.turns hT (fun k a b => by omega)⟩
/-- what clone comes to -/
inductive CloOut (w : World) (e : EvD) (v : Ending) (w' : World) : Prop
  | mk (s : EvS) (hv : v = .returned (.agg #[.int .i64 e.kind, .string e.method, .string e.target, .int .i64 e.minor, .slice s.fo e.fields.length s.fcap, .int .i64 e.length, .slice s.bo e.bytes.length s.bcap, .string e.pname, .string e.pfile, .string e.ptype, .slice s.po e.pbytes.length s.pcap, .int .i64 e.code])) (hf : IsVS w' (fun k => w.heap.size ≤ k ∧ lastB e s ≠ some k) s.fo s.fcap e.fields.length (pairV e.fields)) (hp : IsBS w' (fun k => w.heap.size ≤ k ∧ lastB e s ≠ some k) s.po s.pcap e.pbytes) (hb : GrowB w' (fun k => w.heap.size ≤ k) 5 s.bo s.bcap e.bytes) (hB : Below w.heap.size w w')
/-- all that is within an event is not greater than what a machine holds -/
structure EvD.Small (e : EvD) : Prop where
  method : e.method.size ≤ 281474976710656
  target : e.target.size ≤ 281474976710656
  fields : ∀ q ∈ e.fields, q.1.size ≤ 281474976710656 ∧ q.2.size ≤ 281474976710656
  many : e.fields.length * 32 ≤ 140737488355328
  bytes : e.bytes.length ≤ 140737488355328
  pname : e.pname.size ≤ 281474976710656
  pfile : e.pfile.size ≤ 281474976710656
  ptype : e.ptype.size ≤ 281474976710656
  pbytes : e.pbytes.length ≤ 140737488355328

set_option maxRecDepth 100000 in
set_option maxHeartbeats 4000000 in
theorem clone_any (e : EvD) (s : EvS) (w : World) (hf : IsV w s.fo s.fcap e.fields.length (pairV e.fields)) (hb : IsB w s.bo s.bcap e.bytes) (hp : IsB w s.po s.pcap e.pbytes) (hS : e.Small) :
    Calls Tryz.prog 58 #[.agg #[.int .i64 e.kind, .string e.method, .string e.target, .int .i64 e.minor, .slice s.fo e.fields.length s.fcap, .int .i64 e.length, .slice s.bo e.bytes.length s.bcap, .string e.pname, .string e.pfile, .string e.ptype, .slice s.po e.pbytes.length s.pcap, .int .i64 e.code]] w fun v w' => CloOut w e v w' := by
  have HCh := Hid.mk' (fun W (hW : Below w.heap.size w W) => cloneHead_any e.method e.target e.minor e.length e.fields s.fo s.fcap e.fields.length W (hf.stay hW) rfl hS.many hS.method hS.target hS.fields)
  have HCp := Hid.mk' (fun W (hW : Below w.heap.size w W) => clonePart_any e.pname e.pfile e.ptype s.po s.pcap e.pbytes.length e.pbytes W (hp.stay hW) rfl hS.pbytes hS.pname hS.pfile hS.ptype)
  have HCb := Hid.mk' (fun W (hW : Below w.heap.size w W) => cloneBytes_any e.bytes s.bo s.bcap e.bytes.length W (hb.stay hW) rfl hS.bytes)
  clear hf hb hp hS
  go_enter Tryz.func58, Tryz.ntmps58
  go_upto_region 1 with fail
  have h0 : TwoAt w (.cells #[.int .i64 e.kind, .string e.method, .string e.target, .int .i64 e.minor, .slice s.fo e.fields.length s.fcap, .int .i64 e.length, .slice s.bo e.bytes.length s.bcap, .string e.pname, .string e.pfile, .string e.ptype, .slice s.po e.pbytes.length s.pcap, .int .i64 e.code] 32 (0, 0)) (.cells #[.int .i64 0, .string ⟨#[]⟩, .string ⟨#[]⟩, .int .i64 0, .slice none 0 0, .int .i64 0, .slice none 0 0, .string ⟨#[]⟩, .string ⟨#[]⟩, .string ⟨#[]⟩, .slice none 0 0, .int .i64 0] 32 (0, 0)) _ := TwoAt.made w #[.int .i64 e.kind, .string e.method, .string e.target, .int .i64 e.minor, .slice s.fo e.fields.length s.fcap, .int .i64 e.length, .slice s.bo e.bytes.length s.bcap, .string e.pname, .string e.pfile, .string e.ptype, .slice s.po e.pbytes.length s.pcap, .int .i64 e.code] #[.int .i64 0, .string ⟨#[]⟩, .string ⟨#[]⟩, .int .i64 0, .slice none 0 0, .int .i64 0, .slice none 0 0, .string ⟨#[]⟩, .string ⟨#[]⟩, .string ⟨#[]⟩, .slice none 0 0, .int .i64 0] 32 32
  have hx0 := h0.stay (below_drew _ _)
  have HCl : Hid (∀ W, TwoAt w (.cells #[.int .i64 e.kind, .string e.method, .string e.target, .int .i64 e.minor, .slice s.fo e.fields.length s.fcap, .int .i64 e.length, .slice s.bo e.bytes.length s.bcap, .string e.pname, .string e.pfile, .string e.ptype, .slice s.po e.pbytes.length s.pcap, .int .i64 e.code] 32 (0, 0)) (.cells #[.int .i64 0, .string ⟨#[]⟩, .string ⟨#[]⟩, .int .i64 0, .slice none 0 0, .int .i64 0, .slice none 0 0, .string ⟨#[]⟩, .string ⟨#[]⟩, .string ⟨#[]⟩, .slice none 0 0, .int .i64 0] 32 (0, 0)) W → W.cell? ⟨w.heap.size, 1, none⟩ = some (.string e.method) ∧ W.cell? ⟨w.heap.size, 2, none⟩ = some (.string e.target) ∧ W.cell? ⟨w.heap.size, 3, none⟩ = some (.int .i64 e.minor) ∧ W.cell? ⟨w.heap.size, 4, none⟩ = some (.slice s.fo e.fields.length s.fcap) ∧ W.cell? ⟨w.heap.size, 5, none⟩ = some (.int .i64 e.length) ∧ W.cell? ⟨w.heap.size, 7, none⟩ = some (.string e.pname) ∧ W.cell? ⟨w.heap.size, 8, none⟩ = some (.string e.pfile) ∧ W.cell? ⟨w.heap.size, 9, none⟩ = some (.string e.ptype) ∧ W.cell? ⟨w.heap.size, 10, none⟩ = some (.slice s.po e.pbytes.length s.pcap) ∧ W.frozen? ⟨w.heap.size, 1, none⟩ = false ∧ W.frozen? ⟨w.heap.size, 2, none⟩ = false ∧ W.frozen? ⟨w.heap.size, 3, none⟩ = false ∧ W.frozen? ⟨w.heap.size, 4, none⟩ = false ∧ W.frozen? ⟨w.heap.size, 5, none⟩ = false ∧ W.frozen? ⟨w.heap.size, 7, none⟩ = false ∧ W.frozen? ⟨w.heap.size, 8, none⟩ = false ∧ W.frozen? ⟨w.heap.size, 9, none⟩ = false ∧ W.frozen? ⟨w.heap.size, 10, none⟩ = false) := fun W h => ⟨h.cell 1, h.cell 2, h.cell 3, h.cell 4, h.cell 5, h.cell 7, h.cell 8, h.cell 9, h.cell 10, h.fz 1, h.fz 2, h.fz 3, h.fz 4, h.fz 5, h.fz 7, h.fz 8, h.fz 9, h.fz 10⟩
  obtain ⟨d1, d2, d3, d4, d5, d7, d8, d9, d10, f1, f2, f3, f4, f5, f7, f8, f9, f10⟩ := HCl.out _ h0
  have HX0 := Hid.mk' h0
  clear h0
  go_cut [3] (fun _ wd => ∃ fo po fcap pcap, CloAt w e s fo po fcap pcap wd)
  case first =>
    go_region_with (first
      | (go_at_call 92; refine (HCh.out _ (TwoAt.below (by assumption))).mono ?_; rintro v w2 ⟨fo, fcap, rfl, hfo, hb2⟩; have hxs := TwoAt.stay (w := w) (by assumption) hb2; obtain ⟨d1, d2, d3, d4, d5, d7, d8, d9, d10, f1, f2, f3, f4, f5, f7, f8, f9, f10⟩ := HCl.out w2 hxs; have HFo := Hid.mk' hfo; clear hfo hb2)
      | (go_at_call 93; refine (HCp.out _ (TwoAt.below (by assumption))).mono ?_; rintro v w3 ⟨po, pcap, rfl, hpo, hb3⟩; have hxp := TwoAt.stay (w := w) (by assumption) hb3; obtain ⟨d1, d2, d3, d4, d5, d7, d8, d9, d10, f1, f2, f3, f4, f5, f7, f8, f9, f10⟩ := HCl.out w3 hxp; have HPo := Hid.mk' hpo; have HB3 := Hid.mk' hb3; clear hpo hb3))
    all_goals (go_wp2; go_meet; exact ⟨fo, po, fcap, pcap, CloAt.of hxp ((HFo.out.turns (Turns.of_below (S := fun _ => False) HB3.out) (fun _ _ e => e)).mono (fun k _ h => by simpa using h)) (HPo.out.isBS.mono (fun k _ h => by have := (Array.getElem?_eq_some_iff.1 hxs.two).1; omega))⟩)
  case rest =>
    obtain ⟨fo, po, fcap, pcap, hA⟩ := hcut
    have HA := Hid.mk' hA
    have c6 : wc.cell? ⟨w.heap.size, 6, none⟩ = some (.slice s.bo e.bytes.length s.bcap) := hA.two.cell 6
    have HC := Hid.mk' (HCb.out wc hA.two.below)
    clear hA hx0 HX0 HCl HCh HCp HCb d1 f1 d2 f2 d3 f3 d4 f4 d5 f5 d7 f7 d8 f8 d9 f9 d10 f10
    go_wp2_with fail
    refine HC.out.mono ?_
    rintro v w5 ⟨bo, bcap, rfl, hO, hb5⟩
    have h5 := HA.out.two.stay hb5
    have HO := Hid.mk' hO; have H5 := Hid.mk' h5; have HB5 := Hid.mk' hb5
    have d0 : w5.cell? ⟨w.heap.size, 0, none⟩ = some (.int .i64 e.kind) := h5.cell 0
    have d1 : w5.cell? ⟨w.heap.size, 1, none⟩ = some (.string e.method) := h5.cell 1
    have d2 : w5.cell? ⟨w.heap.size, 2, none⟩ = some (.string e.target) := h5.cell 2
    have d3 : w5.cell? ⟨w.heap.size, 3, none⟩ = some (.int .i64 e.minor) := h5.cell 3
    have d4 : w5.cell? ⟨w.heap.size, 4, none⟩ = some (.slice fo e.fields.length fcap) := h5.cell 4
    have d5 : w5.cell? ⟨w.heap.size, 5, none⟩ = some (.int .i64 e.length) := h5.cell 5
    have d6 : w5.cell? ⟨w.heap.size, 6, none⟩ = some (.slice s.bo e.bytes.length s.bcap) := h5.cell 6
    have d7 : w5.cell? ⟨w.heap.size, 7, none⟩ = some (.string e.pname) := h5.cell 7
    have d8 : w5.cell? ⟨w.heap.size, 8, none⟩ = some (.string e.pfile) := h5.cell 8
    have d9 : w5.cell? ⟨w.heap.size, 9, none⟩ = some (.string e.ptype) := h5.cell 9
    have d10 : w5.cell? ⟨w.heap.size, 10, none⟩ = some (.slice po e.pbytes.length pcap) := h5.cell 10
    have d11 : w5.cell? ⟨w.heap.size, 11, none⟩ = some (.int .i64 e.code) := h5.cell 11
    have f6 := h5.fz 6
    have g0 := h5.fz2 0; have e0 := h5.cell2 0
    have g1 := h5.fz2 1; have e1 := h5.cell2 1
    have g2 := h5.fz2 2; have e2 := h5.cell2 2
    have g3 := h5.fz2 3; have e3 := h5.cell2 3
    have g4 := h5.fz2 4; have e4 := h5.cell2 4
    have g5 := h5.fz2 5; have e5 := h5.cell2 5
    have g6 := h5.fz2 6; have e6 := h5.cell2 6
    have g7 := h5.fz2 7; have e7 := h5.cell2 7
    have g8 := h5.fz2 8; have e8 := h5.cell2 8
    have g9 := h5.fz2 9; have e9 := h5.cell2 9
    have g10 := h5.fz2 10; have e10 := h5.cell2 10
    have g11 := h5.fz2 11; have e11 := h5.cell2 11
    simp at e0 e1 e2 e3 e4 e5 e6 e7 e8 e9 e10 e11
    clear hO h5 hb5 HC c6
    go_wp2
    have h6 := (H5.out.put1 6 (.slice bo e.bytes.length bcap)).1
    have h7 := TwoAt.puts2 [.int .i64 e.kind, .string e.method, .string e.target, .int .i64 e.minor, .slice fo e.fields.length fcap, .int .i64 e.length, .slice bo e.bytes.length bcap, .string e.pname, .string e.pfile, .string e.ptype, .slice po e.pbytes.length pcap, .int .i64 e.code] 0 _ _ h6
    simp [setsA] at h7
    have hT := (setCells_turns w.heap.size [.slice bo e.bytes.length bcap] 6 w5).mono (S' := fun k => k < w.heap.size + 2) (fun k e => by omega)
    have hT2 := hT.trans ((setCells_turns (w.heap.size + 1) [.int .i64 e.kind, .string e.method, .string e.target, .int .i64 e.minor, .slice fo e.fields.length fcap, .int .i64 e.length, .slice bo e.bytes.length bcap, .string e.pname, .string e.pfile, .string e.ptype, .slice po e.pbytes.length pcap, .int .i64 e.code] 0 _).mono (S' := fun k => k < w.heap.size + 2) (fun k e => by omega)) (fun _ k _ => k)
    have hsz : w.heap.size + 2 ≤ wc.heap.size := (Array.getElem?_eq_some_iff.1 HA.out.two.two).1
    have hF6 := ((HA.out.fields.mono (S' := fun k => w.heap.size + 2 ≤ k ∧ k < wc.heap.size) (fun k hk h => ⟨h, hk⟩)).turns (Turns.of_below (S := fun _ => False) HB5.out) (fun _ _ e => e)).turns hT2 (fun k a b => by omega)
    have hP6 := ((HA.out.pbytes.mono (S' := fun k => w.heap.size + 2 ≤ k ∧ k < wc.heap.size) (fun k hk h => ⟨h, hk⟩)).turns (Turns.of_below (S := fun _ => False) HB5.out) (fun _ _ e => e)).turns hT2 (fun k a b => by omega)
    have hO6 := HO.out.turns hT2 (fun k a b => by omega)
    have hlb : ∀ k, k < wc.heap.size → lastB e ⟨fo, fcap, bo, bcap, po, pcap⟩ ≠ some k := fun k hk h => by
      unfold lastB at h
      split at h
      · cases h
      · rcases HO.out with ⟨_, _, h3⟩ | ⟨h1, _⟩
        · cases hbo : bo with
          | none => rw [hbo] at h; cases h
          | some a => rw [hbo] at h; injection h with h; have := h3 a hbo; omega
        · contradiction
    generalize hw6 : (((((((((((((w5.setCell ⟨w.heap.size, 6, none⟩ (Value.slice bo e.bytes.length bcap)).setCell ⟨w.heap.size + 1, 0, none⟩ (Value.int .i64 e.kind)).setCell ⟨w.heap.size + 1, 1, none⟩ (Value.string e.method)).setCell ⟨w.heap.size + 1, 2, none⟩ (Value.string e.target)).setCell ⟨w.heap.size + 1, 3, none⟩ (Value.int .i64 e.minor)).setCell ⟨w.heap.size + 1, 4, none⟩ (Value.slice fo e.fields.length fcap)).setCell ⟨w.heap.size + 1, 5, none⟩ (Value.int .i64 e.length)).setCell ⟨w.heap.size + 1, 6, none⟩ (Value.slice bo e.bytes.length bcap)).setCell ⟨w.heap.size + 1, 7, none⟩ (Value.string e.pname)).setCell ⟨w.heap.size + 1, 8, none⟩ (Value.string e.pfile)).setCell ⟨w.heap.size + 1, 9, none⟩ (Value.string e.ptype)).setCell ⟨w.heap.size + 1, 10, none⟩ (Value.slice po e.pbytes.length pcap)).setCell ⟨w.heap.size + 1, 11, none⟩ (Value.int .i64 e.code)) = w6 at *
    have hT3 : (w5.setCells w.heap.size 6 [.slice bo e.bytes.length bcap]).setCells (w.heap.size + 1) 0 [.int .i64 e.kind, .string e.method, .string e.target, .int .i64 e.minor, .slice fo e.fields.length fcap, .int .i64 e.length, .slice bo e.bytes.length bcap, .string e.pname, .string e.pfile, .string e.ptype, .slice po e.pbytes.length pcap, .int .i64 e.code] = w6 := hw6
    change TwoAt _ _ _ ((w5.setCells w.heap.size 6 [.slice bo e.bytes.length bcap]).setCells (w.heap.size + 1) 0 [.int .i64 e.kind, .string e.method, .string e.target, .int .i64 e.minor, .slice fo e.fields.length fcap, .int .i64 e.length, .slice bo e.bytes.length bcap, .string e.pname, .string e.pfile, .string e.ptype, .slice po e.pbytes.length pcap, .int .i64 e.code]) at h7
    rw [hT3] at h7 hF6 hP6 hO6
    have r0 : w6.cell? ⟨w.heap.size + 1, 0, none⟩ = some (.int .i64 e.kind) := h7.cell2 0
    have r1 : w6.cell? ⟨w.heap.size + 1, 1, none⟩ = some (.string e.method) := h7.cell2 1
    have r2 : w6.cell? ⟨w.heap.size + 1, 2, none⟩ = some (.string e.target) := h7.cell2 2
    have r3 : w6.cell? ⟨w.heap.size + 1, 3, none⟩ = some (.int .i64 e.minor) := h7.cell2 3
    have r4 : w6.cell? ⟨w.heap.size + 1, 4, none⟩ = some (.slice fo e.fields.length fcap) := h7.cell2 4
    have r5 : w6.cell? ⟨w.heap.size + 1, 5, none⟩ = some (.int .i64 e.length) := h7.cell2 5
    have r6 : w6.cell? ⟨w.heap.size + 1, 6, none⟩ = some (.slice bo e.bytes.length bcap) := h7.cell2 6
    have r7 : w6.cell? ⟨w.heap.size + 1, 7, none⟩ = some (.string e.pname) := h7.cell2 7
    have r8 : w6.cell? ⟨w.heap.size + 1, 8, none⟩ = some (.string e.pfile) := h7.cell2 8
    have r9 : w6.cell? ⟨w.heap.size + 1, 9, none⟩ = some (.string e.ptype) := h7.cell2 9
    have r10 : w6.cell? ⟨w.heap.size + 1, 10, none⟩ = some (.slice po e.pbytes.length pcap) := h7.cell2 10
    have r11 : w6.cell? ⟨w.heap.size + 1, 11, none⟩ = some (.int .i64 e.code) := h7.cell2 11
    refine bodyPost_ret (v := .agg #[.int .i64 e.kind, .string e.method, .string e.target, .int .i64 e.minor, .slice fo e.fields.length fcap, .int .i64 e.length, .slice bo e.bytes.length bcap, .string e.pname, .string e.pfile, .string e.ptype, .slice po e.pbytes.length pcap, .int .i64 e.code]) (by simp [results, Tryz.results58, go_sem, r0, r1, r2, r3, r4, r5, r6, r7, r8, r9, r10, r11]) rfl (.mk ⟨fo, fcap, bo, bcap, po, pcap⟩ rfl (hF6.mono (fun k _ h => ⟨by omega, hlb k h.2⟩)) (hP6.mono (fun k _ h => ⟨by omega, hlb k h.2⟩)) (hO6.mono (fun k _ h => by omega)) h7.below)
end Go.Proofs.YtkafbifogdoneacGreatDoor

/- Package request, walked: Join. -/
namespace Go.Proofs.YtkafbifogdoneacGreatDoor
open Go.RowKit

/-- what the loop keeps -/
structure JnRel (W : World) (es : List EvD) (i : Nat) (ao : Option Addr) (cap : Nat) (wr : World) : Prop where
  out : OutAt wr (fun k => W.heap.size ≤ k) 32 5 ao cap (joinD (es.take i))
  below : Below W.heap.size W wr
theorem joinD_take (es : List EvD) (i : Nat) (hi : i < es.length) : joinD (es.take (i + 1)) = addD (joinD (es.take i)) es[i] := by
  rw [List.take_succ_eq_append_getElem hi, joinD_snoc]
theorem sumD_take (es : List EvD) (i : Nat) : sumD (es.take i) ≤ sumD es := by
  conv => rhs; rw [← List.take_append_drop i es, sumD_append]
  omega
/-- one more -/
theorem JnRel.step {W : World} {es : List EvD} {i : Nat} {ao : Option Addr} {cap : Nat} {wr w2 w3 : World} {ob : Obj} {e : EvD} {v : Ending} (h : JnRel W es i ao cap wr) (hi : i < es.length) (he : es[i] = e) (hB : Below (wr.alloc ob).heap.size (wr.alloc ob) w2)
    (hA : AddD w2 (fun k => W.heap.size ≤ k ∧ k < wr.heap.size) (fun k => (wr.alloc ob).heap.size ≤ k) (joinD (es.take i)) e v w3) : ∃ ao' cap' m, v = .returned (.slice ao' m cap') ∧ m = (joinD (es.take (i + 1))).length ∧ JnRel W es (i + 1) ao' cap' w3 := by
  subst he
  obtain ⟨ao', cap', m, hv, hm, hO, hT⟩ := hA
  have hs := h.below.size
  have hs2 := hB.size
  rw [World.size_alloc] at hs2
  rw [← joinD_take es i hi] at hm hO
  have b1 : Below W.heap.size W w2 := (h.below.alloc hs ob).trans (hB.mono (by rw [World.size_alloc]; omega))
  refine ⟨ao', cap', m, hv, hm, ⟨hO.mono (fun k _ e => ?_), b1.trans (hT.below (fun k e => e.1) (by omega))⟩⟩
  rcases e with e | e | e
  · exact e.1
  · rw [World.size_alloc] at e; omega
  · omega

set_option maxRecDepth 100000 in
set_option maxHeartbeats 4000000 in
theorem joinAny (W : World) (ao : Option Addr) (cap n : Nat) (es : List EvD) (hE : IsEs W ao cap es) (hn : es.length = n) (hl : n ≤ 1000000) (hS : ∀ e ∈ es, e.Small) (hz : sumD es ≤ 140737488355328) :
    Calls Tryz.prog 20 #[.slice ao n cap] W fun e w' => ∃ ao' cap' m, e = .returned (.slice ao' m cap') ∧ m = (joinD es).length ∧ OutAt w' (fun k => W.heap.size ≤ k) 32 5 ao' cap' (joinD es) ∧ Below W.heap.size W w' := by
  subst hn
  have HE := Hid.mk' hE; have HS := Hid.mk' hS; have HZ := Hid.mk' hz
  clear hE hS hz
  go_enter Tryz.func20, Tryz.ntmps20
  go_wp2
  go_loopw [3, 8] (fun vo vi wr => ∃ (i m : Nat) (ao' : Option Addr) (cap' : Nat), i ≤ es.length ∧ vi = .int .i64 i ∧ vo = .slice ao' m cap' ∧ m = (joinD (es.take i)).length ∧ JnRel W es i ao' cap' wr) (fun _ vi _ => es.length - (intOf vi).toNat)
  case atStart => exact ⟨0, 0, none, 0, Nat.zero_le _, rfl, rfl, rfl, ⟨.bare, Below.refl _ _⟩⟩
  case round =>
    obtain ⟨i, m, ao', cap', hi, rfl, rfl, hm, hJ⟩ := hrel
    have HJ := Hid.mk' hJ; have HM := Hid.mk' hm
    clear hJ hm
    by_cases hlt : i < es.length
    · have hlt' : (i : Int) < es.length := by omega
      obtain ⟨b, o, rfl, hEs⟩ := HE.out.lit (by omega)
      obtain ⟨s, hE⟩ := hEs i hlt
      have hcap := HE.out.1
      have hSm := HS.out es[i] (List.getElem_mem hlt)
      have HStep : Hid (∀ {w2 w3 : World} {ob : Obj} {v : Ending}, Below (wr.alloc ob).heap.size (wr.alloc ob) w2 → AddD w2 (fun k => W.heap.size ≤ k ∧ k < wr.heap.size) (fun k => (wr.alloc ob).heap.size ≤ k) (joinD (es.take i)) es[i] v w3 → ∃ ao' cap' m, v = .returned (.slice ao' m cap') ∧ m = (joinD (es.take (i + 1))).length ∧ JnRel W es (i + 1) ao' cap' w3) := fun hB hA => HJ.out.step hlt rfl hB hA
      have HT : Hid ((tailBytes (joinD (es.take i))).length + es[i].bytes.length ≤ 140737488355328) := by
        have h1 := tailBytes_le (joinD (es.take i))
        rw [joinD_sum] at h1
        have h2 := sumD_take es (i + 1)
        rw [List.take_succ_eq_append_getElem hlt, sumD_append] at h2
        have h3 : sumD [es[i]] = es[i].bytes.length := by simp [sumD]
        have := HZ.out
        show _ ≤ _
        omega
      have HMl : Hid (m ≤ 1000000) := by
        have h1 := joinD_length (es.take i)
        rw [List.length_take] at h1
        have := HM.out
        show m ≤ 1000000
        omega
      clear hEs
      generalize es[i] = e at *
      have c0 : wr.cell? ⟨b, o + i * 12, none⟩ = some (.int .i64 e.kind) := (HJ.out.below.cell (World.block_lt_of_cell? W _ (hE.at_ 0 _ rfl))).trans (hE.at_ 0 _ rfl)
      have c1 : wr.cell? ⟨b, o + i * 12 + 1, none⟩ = some (.string e.method) := (HJ.out.below.cell (World.block_lt_of_cell? W _ (hE.at_ 1 _ rfl))).trans (hE.at_ 1 _ rfl)
      have c2 : wr.cell? ⟨b, o + i * 12 + 2, none⟩ = some (.string e.target) := (HJ.out.below.cell (World.block_lt_of_cell? W _ (hE.at_ 2 _ rfl))).trans (hE.at_ 2 _ rfl)
      have c3 : wr.cell? ⟨b, o + i * 12 + 3, none⟩ = some (.int .i64 e.minor) := (HJ.out.below.cell (World.block_lt_of_cell? W _ (hE.at_ 3 _ rfl))).trans (hE.at_ 3 _ rfl)
      have c4 : wr.cell? ⟨b, o + i * 12 + 4, none⟩ = some (.slice s.fo e.fields.length s.fcap) := (HJ.out.below.cell (World.block_lt_of_cell? W _ (hE.at_ 4 _ rfl))).trans (hE.at_ 4 _ rfl)
      have c5 : wr.cell? ⟨b, o + i * 12 + 5, none⟩ = some (.int .i64 e.length) := (HJ.out.below.cell (World.block_lt_of_cell? W _ (hE.at_ 5 _ rfl))).trans (hE.at_ 5 _ rfl)
      have c6 : wr.cell? ⟨b, o + i * 12 + 6, none⟩ = some (.slice s.bo e.bytes.length s.bcap) := (HJ.out.below.cell (World.block_lt_of_cell? W _ (hE.at_ 6 _ rfl))).trans (hE.at_ 6 _ rfl)
      have c7 : wr.cell? ⟨b, o + i * 12 + 7, none⟩ = some (.string e.pname) := (HJ.out.below.cell (World.block_lt_of_cell? W _ (hE.at_ 7 _ rfl))).trans (hE.at_ 7 _ rfl)
      have c8 : wr.cell? ⟨b, o + i * 12 + 8, none⟩ = some (.string e.pfile) := (HJ.out.below.cell (World.block_lt_of_cell? W _ (hE.at_ 8 _ rfl))).trans (hE.at_ 8 _ rfl)
      have c9 : wr.cell? ⟨b, o + i * 12 + 9, none⟩ = some (.string e.ptype) := (HJ.out.below.cell (World.block_lt_of_cell? W _ (hE.at_ 9 _ rfl))).trans (hE.at_ 9 _ rfl)
      have c10 : wr.cell? ⟨b, o + i * 12 + 10, none⟩ = some (.slice s.po e.pbytes.length s.pcap) := (HJ.out.below.cell (World.block_lt_of_cell? W _ (hE.at_ 10 _ rfl))).trans (hE.at_ 10 _ rfl)
      have c11 : wr.cell? ⟨b, o + i * 12 + 11, none⟩ = some (.int .i64 e.code) := (HJ.out.below.cell (World.block_lt_of_cell? W _ (hE.at_ 11 _ rfl))).trans (hE.at_ 11 _ rfl)
      have HEv := Hid.mk' hE; have HSm := Hid.mk' hSm
      clear hE hSm
      go_wp2_with fail
      have bA : Below wr.heap.size wr (wr.alloc (.cells #[.int .i64 e.kind, .string e.method, .string e.target, .int .i64 e.minor, .slice s.fo e.fields.length s.fcap, .int .i64 e.length, .slice s.bo e.bytes.length s.bcap, .string e.pname, .string e.pfile, .string e.ptype, .slice s.po e.pbytes.length s.pcap, .int .i64 e.code] 32)) := (Below.refl _ _).alloc (Nat.le_refl _) _
      have hst : IsEv (wr.alloc (.cells #[.int .i64 e.kind, .string e.method, .string e.target, .int .i64 e.minor, .slice s.fo e.fields.length s.fcap, .int .i64 e.length, .slice s.bo e.bytes.length s.bcap, .string e.pname, .string e.pfile, .string e.ptype, .slice s.po e.pbytes.length s.pcap, .int .i64 e.code] 32)) b (o + i * 12) e s := (HEv.out.stay HJ.out.below).stay bA
      refine (clone_any e s _ hst.fields hst.bytes hst.pbytes HSm.out).mono ?_
      rintro v w2 ⟨s2, hv, hf, hp, hb, hB⟩
      subst hv
      have hO2 := (HJ.out.out.mono (S' := fun k => W.heap.size ≤ k ∧ k < wr.heap.size) (fun k hk e => ⟨e, hk⟩)).stay (then_ bA hB)
      have hN : NewE w2 (fun k => W.heap.size ≤ k ∧ k < wr.heap.size) (fun k => (wr.alloc (.cells #[.int .i64 e.kind, .string e.method, .string e.target, .int .i64 e.minor, .slice s.fo e.fields.length s.fcap, .int .i64 e.length, .slice s.bo e.bytes.length s.bcap, .string e.pname, .string e.pfile, .string e.ptype, .slice s.po e.pbytes.length s.pcap, .int .i64 e.code] 32)).heap.size ≤ k) e s2 := ⟨hf, hp, hb, fun k a b => by rw [World.size_alloc] at b; omega⟩
      have HAd := Hid.mk' (addD_any w2 _ _ ao' cap' m (joinD (es.take i)) e s2 hO2 hN HM.out.symm HMl.out HT.out)
      have HB := Hid.mk' hB
      clear hst bA hf hp hb hB hO2 hN c0 c1 c2 c3 c4 c5 c6 c7 c8 c9 c10 c11
      go_wp2_with fail
      refine HAd.out.mono ?_
      intro v w3 hA
      obtain ⟨ao3, cap3, m3, hv, hm3, hJ3⟩ := HStep.out HB.out hA
      subst hv
      have HJ3 := Hid.mk' hJ3; have HM3 := Hid.mk' hm3
      clear hA hJ3 hm3 HAd
      go_wp2
      go_roundw
      case rel => exact ⟨i + 1, m3, ao3, cap3, by omega, by go_num, rfl, HM3.out, HJ3.out⟩
      case measure => simp [intOf]; omega
    · obtain rfl : i = es.length := by omega
      have hO := HJ.out.out
      have hm := HM.out
      rw [List.take_length] at hO hm
      have HO := Hid.mk' hO; have HMm := Hid.mk' hm
      clear hO hm
      go_wp2
      go_ret
      exact ⟨ao', cap', m, rfl, HMm.out, HO.out, HJ.out.below⟩
end Go.Proofs.YtkafbifogdoneacGreatDoor
