/- A looker for a mark, by where it lies in memory: one byte more, walked. -/
import Derived.Test.YtjmndjmhjleabaaGreatDoorPk10
import Derived.Test.YtjmndjmhjleabaaGreatDoorPk11
import Derived.Deep.RegionWith
import Derived.Deep.OwnRows
import Derived.Deep.RegionHeld3
set_option maxHeartbeats 1600000
open Go.Proofs.Tryz
namespace Go.Proofs.YtjmndjmhjleabaaGreatDoor
open Go.RowKit
def bkR (m:List UInt8) (j:Nat):Value:=.int .i64 (Sk.bk m j:Int)
structure Lp where
 mo:Option Addr
 cap:Nat
 gb:Nat
def iC (w:World) (g:Nat) (m:List UInt8) (h:Nat) (p:Lp):Prop :=
 w.heap[g]? = some (.cells #[.slice p.mo m.length p.cap,.slice (some ⟨p.gb,0,none⟩) m.length m.length,.int .i64 (h:Int)] 298 (0,0)) ∧
  aR w 0 5 p.mo p.cap m∧w.rowIs p.gb 3 m.length (bkR m)
section
variable {w w':World} {g:Nat} {m:List UInt8} {h:Nat} {p:Lp}
theorem iC.lt (hS:iC w g m h p):g<w.heap.size:=(Array.getElem?_eq_some_iff.1 hS.1).1
theorem iC.turns {S:Nat→Prop} (hS:iC w g m h p) (ht:Turns S w w') (h1:¬ S g) (h2:¬ S p.gb) (h3:∀ a,p.mo=some a→¬ S a.block):iC w' g m h p :=
 ⟨ht.row hS.1 h1,hS.2.1.turns ht h3,hS.2.2.of_block (ht.block _ hS.2.2.lt h2)⟩
theorem iC.stay (hS:iC w g m h p) (hb:Below w.heap.size w w'):iC w' g m h p:=hS.turns (Turns.of_below (S:=fun _=>False) hb) (fun e=>e) (fun e=>e) (fun _ _ e=>e)
theorem iC.put (hS:iC w g m h p) (h':Nat):iC (w.setCell ⟨g,2,none⟩ (.int .i64 (h':Int))) g m h' p∧w.grownBy (w.setCell ⟨g,2,none⟩ (.int .i64 (h':Int))) (some g):=by
 obtain ⟨hg,hm,hk⟩:=hS;have hgr:w.grownBy (w.setCell ⟨g,2,none⟩ (.int .i64 (h':Int))) (some g):=⟨rfl,rfl,rfl,by simp [World.setCell],fun k _ hne=>heap_setCell_other w _ k _ (fun e=>hne (by rw [e]))⟩;refine ⟨⟨?_,hm.kept hgr ?_,hk.setOther (Db hg hk (by decide)) _⟩,hgr⟩
 · rw [heap_setCell_same w g 2 _ _ _ hg];rfl
 · intro a e;have:=fU hg hm (by decide);rw [ay,e] at this;exact this
end
theorem ZI (w:World) (g:Nat) (m:List UInt8) (h h':Nat) (c:UInt8) (p:Lp) (hS:iC w g m h' p) (hh:h≤m.length - 1) (hL:m.length≤140737488355328) :
 Calls prog 266 #[.pointer (some ⟨g,0,none⟩),.int .i64 h,.int .u8 c.toNat] w fun e w'=>e=.returned (.int .i64 (Sk.fit m h c))∧w'=w:=by
 obtain ⟨mo,cap,gb⟩:=p;obtain ⟨hg,hm,hk⟩:=hS;have c0:w.cell? ⟨g,0,none⟩=some (.slice mo m.length cap):=cell_of_row w g 0 _ _ _ hg;have c1:w.cell? ⟨g,1,none⟩=some (.slice (some ⟨gb,0,none⟩) m.length m.length):=cell_of_row w g 1 _ _ _ hg;by_cases h0:m.length=0
 · have e:m=[]:=List.eq_nil_of_length_eq_zero h0;subst e;have e:h=0:=by simp at hh;exact hh
   subst e;exact Uj g mo cap c w c0
 · obtain ⟨gm,e,_,hmc⟩:=hm.head (by omega);have e:mo=some ⟨gm,0,none⟩:=e;subst e;refine Nw m h c g gm gb cap w (by omega) hL c0 c1 hmc (fun j hj0 hjn=>?_);exact hk.cell (by omega)
theorem Lr (w:World) (g:Nat) (m:List UInt8) (h:Nat) (c:UInt8) (p:Lp) (hS:iC w g m h p) (hh:h≤m.length - 1) (hL:m.length≤1000000) (hr:Sk.fit m h c=0) :
 Calls prog 267 #[.pointer (some ⟨g,0,none⟩),.int .u8 c.toNat] w fun e w'=>∃ ao cap,e=.returned (.tuple #[.slice ao (h+1) cap,.bool false])∧aR w' w.heap.size 5 ao cap (m.take h++[c])∧iC w' g m 0 p∧w.grownBy w' (some g):=by
 have HS:=H9 hS;have HF:=H9 (ZI w g m h h c p hS hh (by omega));rw [hr] at HF;clear hr;obtain ⟨mo,cap,gb⟩:=p;obtain ⟨hg,hm,_⟩:=hS;have c0:w.cell? ⟨g,0,none⟩=some (.slice mo m.length cap):=cell_of_row w g 0 _ _ _ hg;have c2:w.cell? ⟨g,2,none⟩=some (.int .i64 (h:Int)):=cell_of_row w g 2 _ _ _ hg;have f2:w.frozen? ⟨g,2,none⟩=false:=frozen_of_row w g 2 _ _ hg;have hmc:m.length≤cap:=hm.q8.1;obtain ⟨i0,hi0,hz0,hz1,hz2⟩:=info_parts dD;have Hi:=H9 hi0;have eU:=H9 hz0;have dZ:=H9 hz1;have eX:=H9 hz2
 have HP:=H9 (HS.o.put 0);have HC:=H9 (Ny (m.take h) h mo cap (w.setCell ⟨g,2,none⟩ (.int .i64 0)) (by rw [List.length_take];omega) ((hm.q8.first h (by omega)).grown HP.o.2 (fun a e=>by
  have:=fU hg hm (by decide);rwa [ay,e] at this)) (by omega))
 clear hg hm hi0 hz0 hz1 hz2;go_enter func267,ntmps267;go_wp2_with fail
 refine HF.o.mono ?_;rintro e w1 ⟨rfl,hw⟩;subst hw;go_wp2_with fail
 refine HC.o.mono ?_;rintro e w2 ⟨aF,cap',rfl,hO,hB⟩;have HO:=H9 hO;have HB:=H9 hB
 clear hO hB HC HF;have hsz:(w1.setCell ⟨g,2,none⟩ (.int .i64 0)).heap.size=w1.heap.size:=by simp
 go_wp2_with (at_builtin;refine bH rfl (.tmp 30) (.tmp 32) 31 rfl w1.heap.size 5 i0 underlying31 Hi.o eU.o dZ.o eX.o (l:=m.take h) (l2:=[c]) rfl (by rw [List.length_take];omega) ((HO.o.mono (by omega)).alloc _) rfl rfl (aT.one _ _ _ _) (by omega) (by have:=HB.o.size;simp at this ⊢;omega) ?_;intro bX cap2 w3 hO3 hG3)
 go_ret2;have hb:=HB.o;rw [hsz] at hb;have hb3:Below w1.heap.size (w1.setCell ⟨g,2,none⟩ (.int .i64 0)) w3:=(hb.alloc (by have:=hb.size;rw [hsz] at this;exact this) _).grown hG3 (by have:=hb.size;simp at this ⊢;omega) (fun k e=>by
  cases aF with
  | none=>simp [ak] at e
  | some a=>simp [ak] at e;have:=(HO.o.block a rfl).1;omega)
 refine ⟨bX,cap2,rfl,hO3,HP.o.1.stay (show Below (w1.setCell ⟨g,2,none⟩ (.int .i64 0)).heap.size (w1.setCell ⟨g,2,none⟩ (.int .i64 0)) w3 by rw [hsz];exact hb3),dM HP.o.2 (xG _ (hsz▸hb3))⟩
theorem Jb (w:World) (g:Nat) (m:List UInt8) (h:Nat) (c:UInt8) (p:Lp) (hS:iC w g m h p) (hh:h≤m.length - 1) (hL:m.length≤1000000) (hm0:0<m.length) (hr:Sk.fit m h c=m.length) :
 Calls prog 267 #[.pointer (some ⟨g,0,none⟩),.int .u8 c.toNat] w fun e w'=>e=.returned (.tuple #[.slice none 0 0,.bool true])∧iC w' g m 0 p∧w.grownBy w' (some g):=by
 have HS:=H9 hS;have HF:=H9 (ZI w g m h h c p hS hh (by omega));rw [hr] at HF;clear hr;obtain ⟨mo,cap,gb⟩:=p;obtain ⟨hg,hm,_⟩:=hS;have c0:w.cell? ⟨g,0,none⟩=some (.slice mo m.length cap):=cell_of_row w g 0 _ _ _ hg;have c2:w.cell? ⟨g,2,none⟩=some (.int .i64 (h:Int)):=cell_of_row w g 2 _ _ _ hg;have f2:w.frozen? ⟨g,2,none⟩=false:=frozen_of_row w g 2 _ _ hg;have HP:=H9 (HS.o.put m.length);have HQ:=H9 (HP.o.1.put 0);clear hg hm;have t0:((m.length:Int)==0)=false:=by rw [beq_eq_false_iff_ne];omega
 go_enter func267,ntmps267;go_wp2_with fail
 refine HF.o.mono ?_;rintro e w1 ⟨rfl,hw⟩;subst hw;go_wp2;go_ret2;exact ⟨rfl,HQ.o.1,dM HP.o.2 HQ.o.2⟩
theorem Ls (w:World) (g:Nat) (m:List UInt8) (h r:Nat) (c:UInt8) (p:Lp) (hS:iC w g m h p) (hh:h≤m.length - 1) (hL:m.length≤1000000) (hr:Sk.fit m h c=r) (hr0:0<r) (hr1:r<m.length) (hr2:r≤h+1) :
 Calls prog 267 #[.pointer (some ⟨g,0,none⟩),.int .u8 c.toNat] w fun e w'=>∃ ao cap,e=.returned (.tuple #[.slice ao (h+1 - r) cap,.bool false])∧aR w' w.heap.size 5 ao cap (m.take (h+1 - r))∧iC w' g m r p∧w.grownBy w' (some g):=by
 have HS:=H9 hS;have HF:=H9 (ZI w g m h h c p hS hh (by omega));rw [hr] at HF;clear hr;have hlt:g<w.heap.size:=hS.lt;obtain ⟨mo,cap,gb⟩:=p;obtain ⟨hg,hm,_⟩:=hS;have c0:w.cell? ⟨g,0,none⟩=some (.slice mo m.length cap):=cell_of_row w g 0 _ _ _ hg;have c2:w.cell? ⟨g,2,none⟩=some (.int .i64 (h:Int)):=cell_of_row w g 2 _ _ _ hg;have f2:w.frozen? ⟨g,2,none⟩=false:=frozen_of_row w g 2 _ _ hg;have hmc:m.length≤cap:=hm.q8.1;have HP:=H9 (HS.o.put r);have HC:=H9 (Ny (m.take (h+1 - r)) (h+1 - r) mo cap (w.setCell ⟨g,2,none⟩ (.int .i64 (r:Int))).drew (by rw [List.length_take];omega) ((hm.q8.first (h+1 - r) (by omega)).grown (dM HP.o.2 (l6 _ _)) (fun a e=>by
  have:=fU hg hm (by decide);rwa [ay,e] at this)) (by omega))
 clear hg hm;have t0:((r:Int)==0)=false:=by rw [beq_eq_false_iff_ne];omega
 have t1:((r:Int)==m.length)=false:=by rw [beq_eq_false_iff_ne];omega
 have c0s:(w.setCell ⟨g,2,none⟩ (.int .i64 (r:Int))).drew.cell? ⟨g,0,none⟩=some (.slice mo m.length cap):=(World.cell?_setCell_other w ⟨g,2,none⟩ ⟨g,0,none⟩ _ (by simp)).trans c0;have c2s:(w.setCell ⟨g,2,none⟩ (.int .i64 (r:Int))).drew.cell? ⟨g,2,none⟩=some (.int .i64 (r:Int)):=World.cell?_setCell_same w ⟨g,2,none⟩ _ c2;have b0:(r:Int)≤(h:Int)+1:=by omega
 have b1:(h:Int)+1 - r≤cap:=by omega
 have b2:((h:Int)+1 - r).toNat=h+1 - r:=by omega
 have b3:IntKind.i64.wrap ((h:Int)+1)=(h:Int)+1:=gN (by omega) (by omega);have b4:IntKind.i64.wrap ((h:Int)+1 - r)=(h:Int)+1 - r:=gN (by omega) (by omega);go_enter func267,ntmps267;go_wp2_with fail
 refine HF.o.mono ?_;rintro e w1 ⟨rfl,hw⟩;subst hw;go_wp2;go_region_held3 (fun w'=>w'.cell? ⟨g,0,none⟩=some (.slice mo m.length cap)∧w'.cell? ⟨g,2,none⟩=some (.int .i64 (r:Int))) (go_keep) (first | (go_at_call 265;refine HC.o.mono ?_;rintro e w2 ⟨aF,cap',rfl,hO,hB⟩;have c0':=(hB.cell (p:=⟨g,0,none⟩) (by simpa using hlt)).trans c0s;have c2':=(hB.cell (p:=⟨g,2,none⟩) (by simpa using hlt)).trans c2s;have HO:=H9 hO;have HB:=H9 hB;clear hO hB))
 all_goals
  go_wp2;go_ret2;have hb:=HB.o;have hsz:(w1.setCell ⟨g,2,none⟩ (.int .i64 (r:Int))).drew.heap.size=w1.heap.size:=by simp
  have hO:=HO.o;rw [hsz] at hb hO;have hb3:Below w1.heap.size (w1.setCell ⟨g,2,none⟩ (.int .i64 (r:Int))) w2:=(aA _ _).trans hb;have hsz':(w1.setCell ⟨g,2,none⟩ (.int .i64 (r:Int))).heap.size=w1.heap.size:=hsz;refine ⟨aF,cap',rfl,hO,HP.o.1.stay (by rw [hsz'];exact hb3),dM HP.o.2 (xG _ (hsz'▸hb3))⟩
theorem wY (w:World) (g:Nat) (m:List UInt8) (h:Nat) (c:UInt8) (p:Lp) (hS:iC w g m h p) (hh:h≤m.length - 1) (hL:m.length≤1000000) :
 Calls prog 267 #[.pointer (some ⟨g,0,none⟩),.int .u8 c.toNat] w fun e w'=>∃ ao cap,e=.returned (.tuple #[.slice ao (Sk.out m h c).length cap,.bool (Sk.found m h c)])∧aR w' w.heap.size 5 ao cap (Sk.out m h c)∧iC w' g m (Sk.after m h c) p∧w.grownBy w' (some g):=by
 have hle:=Sk.Ka m h c;have hle':=Sk.zf m h c;by_cases h0:Sk.fit m h c=0
 · have hf:Sk.found m h c=false:=by unfold Sk.found;rw [h0,Bool.and_eq_false_iff,decide_eq_false_iff_not,decide_eq_false_iff_not];omega
   have ha:Sk.after m h c=0:=by unfold Sk.after;rw [hf,h0];rfl
   rw [Sk.zR h0,hf,ha,show (m.take h++[c]).length=h+1 by simp;omega];exact Lr w g m h c p hS hh hL h0
 · by_cases h1:Sk.fit m h c=m.length
   · have hf:Sk.found m h c=true:=by unfold Sk.found;rw [Bool.and_eq_true,decide_eq_true_eq,decide_eq_true_eq];exact ⟨by omega,h1⟩
     have ha:Sk.after m h c=0:=by unfold Sk.after;rw [hf];rfl
     rw [Sk.DJ hf hh,hf,ha];refine (Jb w g m h c p hS hh hL (by omega) h1).mono ?_;rintro e w' ⟨rfl,hS',hg⟩;exact ⟨none,0,rfl,aR.nil _ _ _,hS',hg⟩
   · have hf:Sk.found m h c=false:=by unfold Sk.found;rw [Bool.and_eq_false_iff,decide_eq_false_iff_not,decide_eq_false_iff_not];exact Or.inr h1
     have ha:Sk.after m h c=Sk.fit m h c:=by unfold Sk.after;rw [hf];rfl
     rw [Sk.R8 (by omega) (by omega),hf,ha,show (m.take (h+1 - Sk.fit m h c)).length=h+1 - Sk.fit m h c by rw [List.length_take];omega];exact Ls w g m h _ c p hS hh hL rfl (by omega) (by omega) hle'
end Go.Proofs.YtjmndjmhjleabaaGreatDoor