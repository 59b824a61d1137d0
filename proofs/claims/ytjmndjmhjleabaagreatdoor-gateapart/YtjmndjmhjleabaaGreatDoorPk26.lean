/- Small texts, one behind the other: RfMedA, TuM, RfMTxA, SkR, FmA, FmB, SkN. -/
import Derived.Test.YtjmndjmhjleabaaGreatDoorAl
import Derived.Test.YtjmndjmhjleabaaGreatDoorAm
import Derived.Test.YtjmndjmhjleabaaGreatDoorPk4
import Derived.Test.YtjmndjmhjleabaaGreatDoorPk5
import Derived.Test.YtjmndjmhjleabaaGreatDoorPk11
import Derived.Test.YtjmndjmhjleabaaGreatDoorPk10
import Derived.Deep.RegionHeld3
import Derived.Deep.DeepCutAuto
import Derived.Test.YtjmndjmhjleabaaGreatDoorPk12
import Derived.Deep.RegionWith
import Derived.Deep.OwnRows
import Derived.Test.YtjmndjmhjleabaaGreatDoorPk25
import Derived.Test.YtjmndjmhjleabaaGreatDoorPk16
import Derived.Test.YtjmndjmhjleabaaGreatDoorFlB
set_option maxHeartbeats 1600000
open Go.Proofs.Tryz
namespace Go.Proofs.YtjmndjmhjleabaaGreatDoor
open Go.RowKit
def Wx (m:Nat ⊕ (av×List Pm.tL))(word:ay)(ps:au)(code:Nat):Prop :=
 match m with
 | .inl c=>code=c∧word=⟨#[]⟩∧ps=[]
 | .inr x=>code=0∧word.data.toList=x.1∧mq ps=x.2
def uU (w:World)(m:Nat ⊕ (av×List Pm.tL))(e:Ending)(w':World):Prop :=
 ∃word ps ao cap,∃code:Nat,e=.returned (.tuple #[.agg #[.string word,.slice ao ps.length cap],.int .i64 (code:Int)])∧Wx m word ps code∧gV w' w.heap.size 202 2 ao cap ps.length (gU ps)∧aj w w'
theorem uU.bad {w w':World}{m:Nat ⊕ (av×List Pm.tL)}{c:Nat}(hm:m=.inl c)(hb:aj w w'):uU w m (.returned (.tuple #[.agg #[.string ⟨#[]⟩,.slice none 0 0],.int .i64 (c:Int)])) w':=by
 subst hm;exact⟨⟨#[]⟩,[],none,0,c,rfl,⟨rfl,rfl,rfl⟩,gV.nil _ _ _ _,hb⟩
section
end
structure BoxM (w:World)(wd:ay)(ao:ak)(n cap:Nat)(wr:World):Prop where
 box:wr.heap[w.heap.size]? = some (.cells #[.string wd,.slice ao n cap] 172 (0,0))
 below:aj w wr
section
variable {w wr w':World} {wd:ay} {ao:ak} {n cap:Nat}
theorem BoxM.size (h:BoxM w wd ao n cap wr):w.heap.size<wr.heap.size:=(aL.1 h.box).1
theorem BoxM.keep (h:BoxM w wd ao n cap wr)(hb:aj wr w'):BoxM w wd ao n cap w':=by
 have hs:=h.size;exact⟨(hb.block _ hs).trans h.box,h.below.trans (hb.mono (by omega))⟩
theorem BoxM.start (w:World)(wd:ay)(ao:ak)(n cap:Nat):BoxM w wd ao n cap (w.alloc (.cells #[.string wd,.slice ao n cap] 172)):=⟨fI w _,(fJ _ _).alloc (aM _) _⟩
theorem BoxM.cells (h:BoxM w wd ao n cap wr):wr.cell? ⟨w.heap.size,0,none⟩=some (.string wd)∧wr.cell? ⟨w.heap.size,1,none⟩=some (.slice ao n cap):=⟨fK wr _ 0 _ _ _ h.box,fK wr _ 1 _ _ _ h.box⟩
end
def bkR (m:av)(j:Nat):Value:=.int .i64 (Sk.bk m j:Int)
structure OP where
 mo:ak
 cap:Nat
 gb:Nat
def mR (w:World)(g:Nat)(m:av)(h:Nat)(p:OP):Prop :=
 w.heap[g]? = some (.cells #[.slice p.mo m.length p.cap,.slice (some ⟨p.gb,0,none⟩) m.length m.length,.int .i64 (h:Int)] 298 (0,0)) ∧
  iF w 0 5 p.mo p.cap m∧w.rowIs p.gb 3 m.length (bkR m)
section
variable {w w':World} {g:Nat} {m:av} {h:Nat} {p:OP}
theorem mR.lt (hS:mR w g m h p):g<w.heap.size:=(aL.1 hS.1).1
theorem mR.turns {S:Nat->Prop}(hS:mR w g m h p)(ht:Turns S w w')(h1:¬S g)(h2:¬S p.gb)(h3:∀a,p.mo=some a->¬S a.block):mR w' g m h p :=
 ⟨ht.row hS.1 h1,hS.2.1.turns ht h3,hS.2.2.of_block (ht.block _ hS.2.2.lt h2)⟩
theorem mR.stay (hS:mR w g m h p)(hb:aj w w'):mR w' g m h p:=hS.turns (Turns.of_below (S:=fun _=>False) hb) (fun e=>e) (fun e=>e) (fun _ _ e=>e)
theorem mR.put (hS:mR w g m h p)(h':Nat):mR (w.setCell ⟨g,2,none⟩ (.int .i64 (h':Int))) g m h' p∧w.grownBy (w.setCell ⟨g,2,none⟩ (.int .i64 (h':Int))) (some g):=by
 obtain⟨hg,hm,hk⟩:=hS;have hgr:w.grownBy (w.setCell ⟨g,2,none⟩ (.int .i64 (h':Int))) (some g):=⟨rfl,rfl,rfl,by simp[World.setCell],fun k _ hne=>gD w _ k _ (fun e=>hne (by rw[e]))⟩;refine⟨⟨?_,hm.kept hgr ?_,hk.setOther (Gw hg hk (by decide)) _⟩,hgr⟩
 . rw[fO w g 2 _ _ _ hg];rfl
 . intro a e;have:=lG hg hm (by decide);rw[gP,e] at this;exact this
end
theorem ach (w:World)(g:Nat)(m:av)(h h':Nat)(c:UInt8)(p:OP)(hS:mR w g m h' p)(hh:h<=m.length-1)(hL:m.length<=140737488355328):
 Calls prog 266 #[.pointer (some ⟨g,0,none⟩),.int .i64 h,.int .u8 c.toNat] w fun e w'=>e=.returned (.int .i64 (Sk.fit m h c))∧w'=w:=by
 obtain⟨mo,cap,gb⟩:=p;obtain⟨hg,hm,hk⟩:=hS;have c0:w.cell? ⟨g,0,none⟩=some (.slice mo m.length cap):=fK w g 0 _ _ _ hg;have c1:w.cell? ⟨g,1,none⟩=some (.slice (some ⟨gb,0,none⟩) m.length m.length):=fK w g 1 _ _ _ hg;by_cases h0:m.length=0
 . have e:m=[]:=dw h0;subst e;have e:h=0:=by simp at hh;exact hh
   subst e;exact Xg g mo cap c w c0
 . obtain⟨gm,e,_,hmc⟩:=hm.head (by omega);have e:mo=some ⟨gm,0,none⟩:=e;subst e;refine QM m h c g gm gb cap w (by omega) hL c0 c1 hmc (fun j hj0 hjn=>?_);exact hk.cell (by omega)
theorem OQ (w:World)(g:Nat)(m:av)(h:Nat)(c:UInt8)(p:OP)(hS:mR w g m h p)(hh:h<=m.length-1)(hL:m.length<=1000000)(hr:Sk.fit m h c=0):
 Calls prog 267 #[.pointer (some ⟨g,0,none⟩),.int .u8 c.toNat] w fun e w'=>∃ao cap,e=.returned (.tuple #[.slice ao (h+1) cap,.bool false])∧iF w' w.heap.size 5 ao cap (m.take h++[c])∧mR w' g m 0 p∧w.grownBy w' (some g):=by
 have HS:=H9 hS;have HF:=H9 (ach w g m h h c p hS hh (by omega));rw[hr] at HF;clear hr;obtain⟨mo,cap,gb⟩:=p;obtain⟨hg,hm,_⟩:=hS;have c0:w.cell? ⟨g,0,none⟩=some (.slice mo m.length cap):=fK w g 0 _ _ _ hg;have c2:w.cell? ⟨g,2,none⟩=some (.int .i64 (h:Int)):=fK w g 2 _ _ _ hg;have f2:w.frozen? ⟨g,2,none⟩=false:=fM w g 2 _ _ hg;have hmc:m.length<=cap:=hm.xg.1;obtain⟨i0,hi0,hz0,hz1,hz2⟩:=info_parts jO;have Hi:=H9 hi0;have kK:=H9 hz0;have kH:=H9 hz1;have kL:=H9 hz2
 have HP:=H9 (HS.o.put 0);have HC:=H9 (QN (m.take h) h mo cap (w.setCell ⟨g,2,none⟩ (.int .i64 0)) (by rw[bY];omega) ((hm.xg.first h (by omega)).grown HP.o.2 (fun a e=>by
  have:=lG hg hm (by decide);rwa[gP,e] at this)) (by omega))
 clear hg hm hi0 hz0 hz1 hz2;go_enter func267,ntmps267;go_wp2_with fail
 refine HF.o.mono ?_;rintro e w1 ⟨rfl,hw⟩;subst hw;go_wp2_with fail
 refine HC.o.mono ?_;rintro e w2 ⟨gW,cap',rfl,hO,hB⟩;have HO:=H9 hO;have HB:=H9 hB
 clear hO hB HC HF;have hsz:(w1.setCell ⟨g,2,none⟩ (.int .i64 0)).heap.size=w1.heap.size:=by simp
 go_wp2_with (at_builtin;refine iY rfl (.tmp 30) (.tmp 32) 31 rfl w1.heap.size 5 i0 underlying31 Hi.o kK.o kH.o kL.o (l:=m.take h) (l2:=[c]) rfl (by rw[bY];omega) ((HO.o.mono (by omega)).alloc _) rfl rfl (iH.one _ _ _ _) (by omega) (by have:=HB.o.size;simp at this ⊢;omega) ?_;intro jy cap2 w3 hO3 hG3)
 go_ret2;have hb:=HB.o;rw[hsz] at hb;have hb3:Below w1.heap.size (w1.setCell ⟨g,2,none⟩ (.int .i64 0)) w3:=(hb.alloc (by have:=hb.size;rw[hsz] at this;exact this) _).grown hG3 (by have:=hb.size;simp at this ⊢;omega) (fun k e=>by
  cases gW with
  | none=>simp[gL] at e
  | some a=>simp[gL] at e;have:=(HO.o.block a rfl).1;omega)
 refine⟨jy,cap2,rfl,hO3,HP.o.1.stay (show Below (w1.setCell ⟨g,2,none⟩ (.int .i64 0)).heap.size (w1.setCell ⟨g,2,none⟩ (.int .i64 0)) w3 by rw[hsz];exact hb3),jW HP.o.2 (Bv _ (hsz▸hb3))⟩
theorem Mg (w:World)(g:Nat)(m:av)(h:Nat)(c:UInt8)(p:OP)(hS:mR w g m h p)(hh:h<=m.length-1)(hL:m.length<=1000000)(hm0:0<m.length)(hr:Sk.fit m h c=m.length):
 Calls prog 267 #[.pointer (some ⟨g,0,none⟩),.int .u8 c.toNat] w fun e w'=>e=.returned (.tuple #[.slice none 0 0,.bool true])∧mR w' g m 0 p∧w.grownBy w' (some g):=by
 have HS:=H9 hS;have HF:=H9 (ach w g m h h c p hS hh (by omega));rw[hr] at HF;clear hr;obtain⟨mo,cap,gb⟩:=p;obtain⟨hg,hm,_⟩:=hS;have c0:w.cell? ⟨g,0,none⟩=some (.slice mo m.length cap):=fK w g 0 _ _ _ hg;have c2:w.cell? ⟨g,2,none⟩=some (.int .i64 (h:Int)):=fK w g 2 _ _ _ hg;have f2:w.frozen? ⟨g,2,none⟩=false:=fM w g 2 _ _ hg;have HP:=H9 (HS.o.put m.length);have HQ:=H9 (HP.o.1.put 0);clear hg hm;have t0:((m.length:Int)==0)=false:=by rw[aS];omega
 go_enter func267,ntmps267;go_wp2_with fail
 refine HF.o.mono ?_;rintro e w1 ⟨rfl,hw⟩;subst hw;go_wp2;go_ret2;exact⟨rfl,HQ.o.1,jW HP.o.2 HQ.o.2⟩
theorem OT (w:World)(g:Nat)(m:av)(h r:Nat)(c:UInt8)(p:OP)(hS:mR w g m h p)(hh:h<=m.length-1)(hL:m.length<=1000000)(hr:Sk.fit m h c=r)(hr0:0<r)(hr1:r<m.length)(hr2:r<=h+1):
 Calls prog 267 #[.pointer (some ⟨g,0,none⟩),.int .u8 c.toNat] w fun e w'=>∃ao cap,e=.returned (.tuple #[.slice ao (h+1-r) cap,.bool false])∧iF w' w.heap.size 5 ao cap (m.take (h+1-r))∧mR w' g m r p∧w.grownBy w' (some g):=by
 have HS:=H9 hS;have HF:=H9 (ach w g m h h c p hS hh (by omega));rw[hr] at HF;clear hr;have hlt:g<w.heap.size:=hS.lt;obtain⟨mo,cap,gb⟩:=p;obtain⟨hg,hm,_⟩:=hS;have c0:w.cell? ⟨g,0,none⟩=some (.slice mo m.length cap):=fK w g 0 _ _ _ hg;have c2:w.cell? ⟨g,2,none⟩=some (.int .i64 (h:Int)):=fK w g 2 _ _ _ hg;have f2:w.frozen? ⟨g,2,none⟩=false:=fM w g 2 _ _ hg;have hmc:m.length<=cap:=hm.xg.1;have HP:=H9 (HS.o.put r);have HC:=H9 (QN (m.take (h+1-r)) (h+1-r) mo cap (w.setCell ⟨g,2,none⟩ (.int .i64 (r:Int))).drew (by rw[bY];omega) ((hm.xg.first (h+1-r) (by omega)).grown (jW HP.o.2 (rA _ _)) (fun a e=>by
  have:=lG hg hm (by decide);rwa[gP,e] at this)) (by omega))
 clear hg hm;have t0:((r:Int)==0)=false:=by rw[aS];omega
 have t1:((r:Int)==m.length)=false:=by rw[aS];omega
 have c0s:(w.setCell ⟨g,2,none⟩ (.int .i64 (r:Int))).drew.cell? ⟨g,0,none⟩=some (.slice mo m.length cap):=(fQ w ⟨g,2,none⟩ ⟨g,0,none⟩ _ (by simp)).trans c0;have c2s:(w.setCell ⟨g,2,none⟩ (.int .i64 (r:Int))).drew.cell? ⟨g,2,none⟩=some (.int .i64 (r:Int)):=fP w ⟨g,2,none⟩ _ c2;have b0:(r:Int)<=(h:Int)+1:=by omega
 have b1:(h:Int)+1-r<=cap:=by omega
 have b2:((h:Int)+1-r).toNat=h+1-r:=by omega
 have b3:IntKind.i64.wrap ((h:Int)+1)=(h:Int)+1:=lZ (by omega) (by omega);have b4:IntKind.i64.wrap ((h:Int)+1-r)=(h:Int)+1-r:=lZ (by omega) (by omega);go_enter func267,ntmps267;go_wp2_with fail
 refine HF.o.mono ?_;rintro e w1 ⟨rfl,hw⟩;subst hw;go_wp2;go_region_held3 (fun w'=>w'.cell? ⟨g,0,none⟩=some (.slice mo m.length cap)∧w'.cell? ⟨g,2,none⟩=some (.int .i64 (r:Int))) (go_keep) (first | (go_at_call 265;refine HC.o.mono ?_;rintro e w2 ⟨gW,cap',rfl,hO,hB⟩;have c0':=(hB.cell (p:=⟨g,0,none⟩) (by simpa using hlt)).trans c0s;have c2':=(hB.cell (p:=⟨g,2,none⟩) (by simpa using hlt)).trans c2s;have HO:=H9 hO;have HB:=H9 hB;clear hO hB))
 all_goals
  go_wp2;go_ret2;have hb:=HB.o;have hsz:(w1.setCell ⟨g,2,none⟩ (.int .i64 (r:Int))).drew.heap.size=w1.heap.size:=by simp
  have hO:=HO.o;rw[hsz] at hb hO;have hb3:Below w1.heap.size (w1.setCell ⟨g,2,none⟩ (.int .i64 (r:Int))) w2:=(gQ _ _).trans hb;have hsz':(w1.setCell ⟨g,2,none⟩ (.int .i64 (r:Int))).heap.size=w1.heap.size:=hsz;refine⟨gW,cap',rfl,hO,HP.o.1.stay (by rw[hsz'];exact hb3),jW HP.o.2 (Bv _ (hsz'▸hb3))⟩
theorem Bf (w:World)(g:Nat)(m:av)(h:Nat)(c:UInt8)(p:OP)(hS:mR w g m h p)(hh:h<=m.length-1)(hL:m.length<=1000000):
 Calls prog 267 #[.pointer (some ⟨g,0,none⟩),.int .u8 c.toNat] w fun e w'=>∃ao cap,e=.returned (.tuple #[.slice ao (Sk.out m h c).length cap,.bool (Sk.found m h c)])∧iF w' w.heap.size 5 ao cap (Sk.out m h c)∧mR w' g m (Sk.after m h c) p∧w.grownBy w' (some g):=by
 have hle:=Sk.Nr m h c;have hle':=Sk.CZ m h c;by_cases h0:Sk.fit m h c=0
 . have hf:Sk.found m h c=false:=by unfold Sk.found;rw[h0,dx,bQ,bQ];omega
   have ha:Sk.after m h c=0:=by unfold Sk.after;rw[hf,h0];rfl
   rw[Sk.DI h0,hf,ha,show(m.take h++[c]).length=h+1 by simp;omega];exact OQ w g m h c p hS hh hL h0
 . by_cases h1:Sk.fit m h c=m.length
   . have hf:Sk.found m h c=true:=by unfold Sk.found;rw[dh,bR,bR];exact⟨by omega,h1⟩
     have ha:Sk.after m h c=0:=by unfold Sk.after;rw[hf];rfl
     rw[Sk.He hf hh,hf,ha];refine(Mg w g m h c p hS hh hL (by omega) h1).mono ?_;rintro e w' ⟨rfl,hS',hg⟩;exact⟨none,0,rfl,iF.nil _ _ _,hS',hg⟩
   . have hf:Sk.found m h c=false:=by unfold Sk.found;rw[dx,bQ,bQ];exact Or.inr h1
     have ha:Sk.after m h c=Sk.fit m h c:=by unfold Sk.after;rw[hf];rfl
     rw[Sk.Vy (by omega) (by omega),hf,ha,show(m.take (h+1-Sk.fit m h c)).length=h+1-Sk.fit m h c by rw[bY];omega];exact OT w g m h _ c p hS hh hL rfl (by omega) (by omega) hle'
structure jw (w:World)(g:Nat)(sk:Value)(ah:Int)(ln:Value)(fo:ak)(nf gM:Nat)(pl pt cd:Int):Prop where
 row:w.heap[g]? = some (.cells #[sk,.int .i64 ah,ln,.slice fo nf gM,.int .i64 pl,.int .i64 pt,.int .i64 cd] 266 (0,0))
section
variable {w w':World} {g:Nat} {sk ln:Value} {fo:ak} {nf gM:Nat} {ah pl pt cd:Int}
theorem jw.lt (h:jw w g sk ah ln fo nf gM pl pt cd):g<w.heap.size:=(aL.1 h.row).1
theorem jw.c0 (h:jw w g sk ah ln fo nf gM pl pt cd):w.cell? ⟨g,0,none⟩=some sk:=fK w g 0 _ _ _ h.row
theorem jw.c1 (h:jw w g sk ah ln fo nf gM pl pt cd):w.cell? ⟨g,1,none⟩=some (.int .i64 ah):=fK w g 1 _ _ _ h.row
theorem jw.c2 (h:jw w g sk ah ln fo nf gM pl pt cd):w.cell? ⟨g,2,none⟩=some ln:=fK w g 2 _ _ _ h.row
theorem jw.c3 (h:jw w g sk ah ln fo nf gM pl pt cd):w.cell? ⟨g,3,none⟩=some (.slice fo nf gM):=fK w g 3 _ _ _ h.row
theorem jw.c4 (h:jw w g sk ah ln fo nf gM pl pt cd):w.cell? ⟨g,4,none⟩=some (.int .i64 pl):=fK w g 4 _ _ _ h.row
theorem jw.c5 (h:jw w g sk ah ln fo nf gM pl pt cd):w.cell? ⟨g,5,none⟩=some (.int .i64 pt):=fK w g 5 _ _ _ h.row
theorem jw.c6 (h:jw w g sk ah ln fo nf gM pl pt cd):w.cell? ⟨g,6,none⟩=some (.int .i64 cd):=fK w g 6 _ _ _ h.row
theorem jw.fz (h:jw w g sk ah ln fo nf gM pl pt cd)(j:Nat):w.frozen? ⟨g,j,none⟩=false:=fM w g j _ _ h.row
theorem jw.turns {S:Nat->Prop}(h:jw w g sk ah ln fo nf gM pl pt cd)(ht:Turns S w w')(hs:¬S g):jw w' g sk ah ln fo nf gM pl pt cd:=⟨ht.row h.row hs⟩
theorem jw.stay (h:jw w g sk ah ln fo nf gM pl pt cd)(hb:aj w w'):jw w' g sk ah ln fo nf gM pl pt cd:=⟨(hb.block g h.lt).trans h.row⟩
theorem jw.s1 (h:jw w g sk ah ln fo nf gM pl pt cd)(v:Int):jw (w.setCell ⟨g,1,none⟩ (.int .i64 v)) g sk v ln fo nf gM pl pt cd:=⟨by rw[fO w g 1 _ _ _ h.row];rfl⟩
theorem jw.s3 (h:jw w g sk ah ln fo nf gM pl pt cd)(fo':ak)(nf' aaW:Nat):jw (w.setCell ⟨g,3,none⟩ (.slice fo' nf' aaW)) g sk ah ln fo' nf' aaW pl pt cd:=⟨by rw[fO w g 3 _ _ _ h.row];rfl⟩
theorem jw.s4 (h:jw w g sk ah ln fo nf gM pl pt cd)(v:Int):jw (w.setCell ⟨g,4,none⟩ (.int .i64 v)) g sk ah ln fo nf gM v pt cd:=⟨by rw[fO w g 4 _ _ _ h.row];rfl⟩
theorem jw.s5 (h:jw w g sk ah ln fo nf gM pl pt cd)(v:Int):jw (w.setCell ⟨g,5,none⟩ (.int .i64 v)) g sk ah ln fo nf gM pl v cd:=⟨by rw[fO w g 5 _ _ _ h.row];rfl⟩
theorem jw.set (w:World)(g:Nat)(j:Nat)(v:Value):Turns (fun k=>k=g) w (w.setCell ⟨g,j,none⟩ v):=Turns.setCell (fun k=>k=g) w ⟨g,j,none⟩ v rfl
end
structure tK (w:World)(C:Nat->Prop)(m:av)(s:Fm.St)(gs gl:Nat)(p:OP)(fo:ak)(gM:Nat)(D:Nat->Prop):Prop where
 sk:mR w gs m s.held p
 Ae:C gs∧C p.gb∧∀a,p.mo=some a->C a.block
 OU:¬D gs∧¬D p.gb∧∀a,p.mo=some a->¬D a.block
 ln:iA w (fun k=>C k∧D k) gl s.ln
 own:gV w 0 111 2 fo gM s.fields.length (gU (Rq.ny s.fields))
 fC:∀a,fo=some a->C a.block∧¬D a.block
section
variable {w w':World} {C C' S' D:Nat->Prop} {m:av} {s:Fm.St} {gs gl:Nat} {p:OP} {fo:ak} {gM:Nat}
theorem tK.mono (h:tK w C m s gs gl p fo gM D)(hs:∀k,k<w.heap.size->C k->C' k):tK w C' m s gs gl p fo gM D :=
 ⟨h.sk,⟨hs _ h.sk.lt h.Ae.1,hs _ h.sk.2.2.lt h.Ae.2.1,fun a e=>hs _ (h.sk.2.1.block a e).2 (h.Ae.2.2 a e)⟩,h.OU,h.ln.mono (fun k hk e=>⟨hs k hk e.1,e.2⟩),h.own,fun a e=>⟨hs _ (h.own.block a e).2 (h.fC a e).1,(h.fC a e).2⟩⟩
theorem tK.turns (h:tK w C m s gs gl p fo gM D)(ht:Turns S' w w')(hs:∀k,C k->¬S' k):tK w' C m s gs gl p fo gM D :=
 ⟨h.sk.turns ht (hs _ h.Ae.1) (hs _ h.Ae.2.1) (fun a e=>hs _ (h.Ae.2.2 a e)),h.Ae,h.OU,h.ln.turns ht (fun k e=>hs k e.1),h.own.turns ht (fun a e=>hs _ (h.fC a e).1),h.fC⟩
theorem tK.stay (h:tK w C m s gs gl p fo gM D)(hb:aj w w'):tK w' C m s gs gl p fo gM D:=h.turns (Turns.of_below (S:=fun _=>False) hb) (fun _ _ e=>e)
theorem tK.as {s2:Fm.St}(h:tK w C m s gs gl p fo gM D)(h1:s2.held=s.held)(h2:s2.ln=s.ln)(h3:s2.fields=s.fields):tK w C m s2 gs gl p fo gM D :=
 ⟨h1▸h.sk,h.Ae,h.OU,h2▸h.ln,h3▸h.own,h.fC⟩
theorem tK.fs (h:tK w C m s gs gl p fo gM D):∀a,fo=some a->a.block≠gs∧a.block≠p.gb∧∀b,p.mo=some b->a.block≠b.block:=by
 intro a e;have h1:=lG h.sk.1 h.own (by decide);rw[gP,e] at h1;refine⟨fun e2=>h1 (by simp[gL,e2]),fun e2=>?_,fun b eb e2=>?_⟩
 . obtain⟨cc,hcc,_⟩:=h.sk.2.2;have h2:=lG hcc h.own (by decide);rw[gP,e] at h2;exact h2 (by simp[gL,e2])
 . rcases h.sk.2.1.2 with hn | ⟨gg,cap',cur,e3,_,hh,_⟩
   . have hn:=hn.1;rw[eb] at hn;injection hn with hn;cases hn
   . rw[eb] at e3;injection e3 with e3;injection e3 with e3;have h2:=lG hh h.own (by decide);rw[gP,e] at h2;exact h2 (by simp[gL,e2,e3])
end
inductive kr (w:World)(S:Nat->Prop)(g:Nat)(m:av)(s:Fm.St):Prop
 | dead (h:¬Fm.live s) (me:S g) (row:jw w g (.pointer none) (s.ahead:Int) (.pointer none) none 0 0 (s.place:Int) (s.parts:Int) (s.code:Int))
 | live (h:Fm.live s) (me:S g) (gs gl:Nat) (p:OP) (fo:ak) (gM:Nat) (D:Nat->Prop) (row:jw w g (.pointer (some ⟨gs,0,none⟩)) (s.ahead:Int) (.pointer (some ⟨gl,0,none⟩)) fo s.fields.length gM (s.place:Int) (s.parts:Int) (s.code:Int)) (inn:tK w (fun k=>S k∧k≠g) m s gs gl p fo gM D)
section
variable {w w':World} {S S':Nat->Prop} {g:Nat} {m:av} {s:Fm.St}
theorem kr.lt (h:kr w S g m s):g<w.heap.size:=by
 cases h with
 | dead h me row=>exact row.lt
 | live h me gs gl p fo gM D row inn=>exact row.lt
theorem kr.me (h:kr w S g m s):S g:=by
 cases h with
 | dead h me row=>exact me
 | live h me gs gl p fo gM D row inn=>exact me
theorem kr.mono (h:kr w S g m s)(hs:∀k,k<w.heap.size->S k->S' k):kr w S' g m s:=by
 cases h with
 | dead h me row=>exact .dead h (hs g row.lt me) row
 | live h me gs gl p fo gM D row inn=>exact .live h (hs g row.lt me) gs gl p fo gM D row (inn.mono (fun k hk e=>⟨hs k hk e.1,e.2⟩))
theorem kr.turns (h:kr w S g m s)(ht:Turns S' w w')(hs:∀k,S k->¬S' k):kr w' S g m s:=by
 cases h with
 | dead h me row=>exact .dead h me (row.turns ht (hs g me))
 | live h me gs gl p fo gM D row inn=>exact .live h me gs gl p fo gM D (row.turns ht (hs g me)) (inn.turns ht (fun k e=>hs k e.1))
theorem kr.stay (h:kr w S g m s)(hb:aj w w'):kr w' S g m s:=h.turns (Turns.of_below (S:=fun _=>False) hb) (fun _ _ e=>e)
theorem kr.cells (h:kr w S g m s):w.cell? ⟨g,4,none⟩=some (.int .i64 (s.place:Int))∧w.cell? ⟨g,5,none⟩=some (.int .i64 (s.parts:Int))∧w.cell? ⟨g,6,none⟩=some (.int .i64 (s.code:Int))∧∀j,w.frozen? ⟨g,j,none⟩=false:=by
 cases h with
 | dead h me row=>exact⟨row.c4,row.c5,row.c6,row.fz⟩
 | live h me gs gl p fo gM D row inn=>exact⟨row.c4,row.c5,row.c6,row.fz⟩
end
theorem Tz (w:World)(S:Nat->Prop)(g:Nat)(m:av)(s:Fm.St)(h:kr w S g m s):
 Calls prog 197 #[.pointer (some ⟨g,0,none⟩)] w fun e w'=>e=.returned (.int .i64 (Fm.close s:Int))∧w'=w:=by
 obtain⟨c4,_,c6,_⟩:=h.cells;clear h;by_cases hc:s.code=0
 . have t0:((s.code:Int)==0)=true:=by rw[aT];omega
   by_cases h6:s.place=6
   . have t1:((s.place:Int) != 6)=false:=by rw[h6];rfl
     have he:Fm.close s=s.code:=by unfold Fm.close;rw[if_neg (fun e=>e.2 h6)]
     rw[he];generalize (s.code:Int)=cd at *;generalize (s.place:Int)=pl at *;clear hc h6 he;go_enter func197,ntmps197;go_wp2;go_ret;exact⟨rfl,rfl⟩
   . have t1:((s.place:Int) != 6)=true:=by rw[cZ];omega
     have he:Fm.close s=14:=by unfold Fm.close;rw[if_pos ⟨hc,h6⟩]
     rw[he];generalize (s.code:Int)=cd at *;generalize (s.place:Int)=pl at *;clear hc h6 he;go_enter func197,ntmps197;go_wp2;go_ret;exact⟨rfl,rfl⟩
 . have t0:((s.code:Int)==0)=false:=by rw[aS];omega
   have he:Fm.close s=s.code:=by unfold Fm.close;rw[if_neg (fun e=>hc e.1)]
   rw[he];generalize (s.code:Int)=cd at *;generalize (s.place:Int)=pl at *;clear hc he;go_enter func197,ntmps197;go_wp2;go_ret;exact⟨rfl,rfl⟩
theorem Xh (w:World)(p:Nat)(c:UInt8)(hp:p=1∨p=2∨p=3∨p=4):
 Calls prog 296 #[.int .i64 (p:Int),.int .u8 c.toNat] w fun e w'=>e=.returned (.tuple #[.int .i64 ((Fm.turn p c).1:Int),.int .i64 ((Fm.turn p c).2:Int)])∧w'=w:=by
 have T:∀d:UInt8,((c.toNat:Int)==(d.toNat:Int))=decide (c=d):=fun d=>by
  rw[aH,aT,bR];constructor
  . intro e;exact dR.1 (by omega)
  . intro e;rw[e]
 have t10:((c.toNat:Int)==10)=decide (c=10):=T 10;have n10:((c.toNat:Int) != 10)=!decide (c=10):=by rw[<-t10];rfl
 have t45:((c.toNat:Int)==45)=decide (c=45):=T 45;have t32:((c.toNat:Int)==32)=decide (c=32):=T 32;have t9:((c.toNat:Int)==9)=decide (c=9):=T 9;have Y4:((c.toNat:Int)==13)=decide (c=13):=T 13;clear T;have hv:∃x y:Nat,Fm.turn p c=(x,y):=⟨_,_,rfl⟩;obtain⟨x,y,hxy⟩:=hv;have ZK:=H9 hxy;rw[hxy];unfold Fm.turn at ZK;generalize (c.toNat:Int)=ci at *;clear hxy;rcases hp with rfl | rfl | rfl | rfl
 . have oV:Hid ((if c=45 then (2,0) else if c=32∨c=9 then (3,0) else if c=13 then (4,0) else (0,5))=(x,y)):=by
    have:=ZK.o;rw[if_neg (by decide),if_neg (by decide)] at this;unfold Hid;simpa using this
   clear ZK;by_cases h45:c=45
   . obtain⟨rfl,rfl⟩:2=x∧0=y:=by have:=oV.o;rw[if_pos h45] at this;simpa using this
     rw[aI h45] at t45;clear h45 oV;go_enter func296,ntmps296;go_wp2;go_ret2;exact⟨rfl,rfl⟩
   . rw[aJ h45] at t45;by_cases hb:c=32∨c=9
     . obtain⟨rfl,rfl⟩:3=x∧0=y:=by have:=oV.o;rw[if_neg h45,if_pos hb] at this;simpa using this
       rcases hb with hb | hb
       . rw[aI hb] at t32;clear h45 oV hb;go_enter func296,ntmps296;go_wp2;go_ret2;exact⟨rfl,rfl⟩
       . rw[aJ (by rw[hb];decide)] at t32;rw[aI hb] at t9;clear h45 oV hb;go_enter func296,ntmps296;go_wp2;go_ret2;exact⟨rfl,rfl⟩
     . rw[aJ (fun e=>hb (Or.inl e))] at t32;rw[aJ (fun e=>hb (Or.inr e))] at t9;by_cases mE:c=13
       . obtain⟨rfl,rfl⟩:4=x∧0=y:=by have:=oV.o;rw[if_neg h45,if_neg hb,if_pos mE] at this;simpa using this
         rw[aI mE] at Y4;clear h45 oV hb mE;go_enter func296,ntmps296;go_wp2;go_ret2;exact⟨rfl,rfl⟩
       . obtain⟨rfl,rfl⟩:0=x∧5=y:=by have:=oV.o;rw[if_neg h45,if_neg hb,if_neg mE] at this;simpa using this
         rw[aJ mE] at Y4;clear h45 oV hb mE;go_enter func296,ntmps296;go_wp2;go_ret2;exact⟨rfl,rfl⟩
 . have oV:Hid ((if c=45 then (6,0) else (0,5))=(x,y)):=by
    have:=ZK.o;rw[if_neg (by decide),if_pos rfl] at this;exact this
   clear ZK;by_cases h45:c=45
   . obtain⟨rfl,rfl⟩:6=x∧0=y:=by have:=oV.o;rw[if_pos h45] at this;simpa using this
     rw[aI h45] at t45;clear h45 oV;go_enter func296,ntmps296;go_wp2;go_ret2;exact⟨rfl,rfl⟩
   . obtain⟨rfl,rfl⟩:0=x∧5=y:=by have:=oV.o;rw[if_neg h45] at this;simpa using this
     rw[aJ h45] at t45;clear h45 oV;go_enter func296,ntmps296;go_wp2;go_ret2;exact⟨rfl,rfl⟩
 . have oV:Hid ((if c=32∨c=9 then (3,0) else if c=13 then (4,0) else (0,5))=(x,y)):=by
    have:=ZK.o;rw[if_neg (by decide),if_neg (by decide),if_neg (fun e=>by have:=e.1;omega)] at this;exact this
   clear ZK;by_cases hb:c=32∨c=9
   . obtain⟨rfl,rfl⟩:3=x∧0=y:=by have:=oV.o;rw[if_pos hb] at this;simpa using this
     rcases hb with hb | hb
     . rw[aI hb] at t32;clear oV hb;go_enter func296,ntmps296;go_wp2;go_ret2;exact⟨rfl,rfl⟩
     . rw[aJ (by rw[hb];decide)] at t32;rw[aI hb] at t9;clear oV hb;go_enter func296,ntmps296;go_wp2;go_ret2;exact⟨rfl,rfl⟩
   . rw[aJ (fun e=>hb (Or.inl e))] at t32;rw[aJ (fun e=>hb (Or.inr e))] at t9;by_cases mE:c=13
     . obtain⟨rfl,rfl⟩:4=x∧0=y:=by have:=oV.o;rw[if_neg hb,if_pos mE] at this;simpa using this
       rw[aI mE] at Y4;clear oV hb mE;go_enter func296,ntmps296;go_wp2;go_ret2;exact⟨rfl,rfl⟩
     . obtain⟨rfl,rfl⟩:0=x∧5=y:=by have:=oV.o;rw[if_neg hb,if_neg mE] at this;simpa using this
       rw[aJ mE] at Y4;clear oV hb mE;go_enter func296,ntmps296;go_wp2;go_ret2;exact⟨rfl,rfl⟩
 . have oV:Hid ((if c=10 then (5,0) else (0,2))=(x,y)):=by
    have:=ZK.o;rw[if_pos rfl] at this;exact this
   clear ZK;by_cases h10:c=10
   . obtain⟨rfl,rfl⟩:5=x∧0=y:=by have:=oV.o;rw[if_pos h10] at this;simpa using this
     rw[aI h10] at t10 n10;clear h10 oV;go_enter func296,ntmps296;go_wp2;go_ret2;exact⟨rfl,rfl⟩
   . obtain⟨rfl,rfl⟩:0=x∧2=y:=by have:=oV.o;rw[if_neg h10] at this;simpa using this
     rw[aJ h10] at t10 n10;clear h10 oV;go_enter func296,ntmps296;go_wp2;go_ret2;exact⟨rfl,rfl⟩
theorem TA (w:World)(g:Nat)(fo:ak)(nf gM:Nat)(c3:w.cell? ⟨g,3,none⟩=some (.slice fo nf gM))(f3:w.frozen? ⟨g,3,none⟩=false):
 Calls prog 306 #[.pointer (some ⟨g,2,none⟩)] w fun e w'=>e=.returned (.slice fo nf gM)∧w'=w.setCell ⟨g,3,none⟩ (.slice none 0 0):=by
 go_enter func306,ntmps306;go_wp2;go_ret;exact⟨rfl,rfl⟩
theorem TB {m:av}(h2:m.take 2=[13,10])(h3:3<=m.length):Sk.after m 0 13=1∧Sk.after m 1 10=2:=by
 have hm1:m.take 1=[13]:=by
  have:=bE (List.take 1) h2;rw[List.take_take] at this;simpa using this
 have f0:Sk.fit m 0 13=1:=by
  refine Sk.oL.best ⟨by omega,by rw[hm1];exact List.suffix_refl _,fun k h1 _ hs=>?_⟩;have:=hs.length_le;rw[bY] at this;simp at this;omega
 have f1:Sk.fit m 1 10=2:=by
  refine Sk.oL.best ⟨by omega,by rw[h2,hm1];exact List.suffix_refl _,fun k h1 _ hs=>?_⟩;have:=hs.length_le;rw[bY] at this;simp at this;omega
 constructor
 . unfold Sk.after Sk.found;rw[f0];simp;omega
 . unfold Sk.after Sk.found;rw[f1];simp;omega
theorem yC (w:World)(g gs:Nat)(m:av)(p:OP)(v:Value)(c0:w.cell? ⟨g,0,none⟩=some (.pointer (some ⟨gs,0,none⟩)))(c1:w.cell? ⟨g,1,none⟩=some v)(f1:w.frozen? ⟨g,1,none⟩=false)(hne:g≠gs)(hS:mR w gs m 0 p)(h2:m.take 2=[13,10])(h3:3<=m.length)(hL:m.length<=1000000):
 Calls prog 232 #[.pointer (some ⟨g,0,none⟩)] w fun e w'=>∃w1,e=.returned (.tuple #[])∧w'=w1.setCell ⟨g,1,none⟩ (.int .i64 2)∧mR w1 gs m 2 p∧w.grownBy w1 (some gs):=by
 have HA:=H9 (TB h2 h3);have HS:=H9 hS;have HC:Hid (∀W,w.grownBy W (some gs)->W.cell? ⟨g,0,none⟩=some (.pointer (some ⟨gs,0,none⟩))∧W.cell? ⟨g,1,none⟩=some v∧W.frozen? ⟨g,1,none⟩=false):=fun W hG=>by
  have hn:(some g:Option Nat)≠some gs:=fun e=>hne (by injection e);refine⟨hG.cell c0 hn,hG.cell c1 hn,?_⟩;rw[gH (a:=⟨g,1,none⟩) (hG.block g (gq w _ c0) hn)];exact f1
 have HL:Hid (3<=m.length∧m.length<=1000000):=⟨h3,hL⟩;clear hS h2 h3 hL c0 c1 f1;go_enter func232,ntmps232;go_wp2;go_loopw [3] (fun vi wr=>∃k:Nat,k<=2∧vi=.int .i64 k∧mR wr gs m k p∧w.grownBy wr (some gs)) (fun vi _=>2-(intOf vi).toNat)
 case atStart=>exact⟨0,by omega,rfl,HS.o,⟨rfl,rfl,rfl,aM _,fun _ _ _=>rfl⟩⟩
 case round =>
  clear HS;obtain⟨k,hk,rfl,hS,hG⟩:=hrel;have HS:=H9 hS;have HG:=H9 hG
  obtain⟨c0,c1,f1⟩:=HC.o wr hG;clear hS hG;by_cases h2:k=2
  . subst h2;go_wp2;go_end0
    exact⟨wr,rfl,rfl,HS.o,HG.o⟩
  . by_cases h0:k=0
    . subst h0;have HF:=H9 (fun(W:World) (hW:mR W gs m 0 p)=>Bf W gs m 0 13 p hW (aA _) HL.o.2);rw[HA.o.1] at HF;generalize (Sk.out m 0 13)=oo at HF;generalize (Sk.found m 0 13)=ff at HF;have ZG:=H9 (HS.o.stay (gQ _ _));go_wp2;go_region_held3 (fun w'=>w'.cell? ⟨g,0,none⟩=some (.pointer (some ⟨gs,0,none⟩))) (go_keep) (first | (go_at_call 267;refine(HF.o _ ZG.o).mono ?_;rintro e w2 ⟨gW,cap',rfl,hO,hS2,hG2⟩;have hG3:=jW HG.o (jW (rA _ _) hG2);have c0':=(HC.o _ hG3).1;have HS2:=H9 hS2;have HG2:=H9 hG3;clear hO hS2 hG2 hG3))
      all_goals
       go_wp2;go_roundw
       case rel=>exact⟨1,by omega,by go_num,HS2.o,HG2.o⟩
       case measure=>simp[intOf]
    . obtain rfl:k=1:=by omega
      have HF:=H9 (fun(W:World) (hW:mR W gs m 1 p)=>Bf W gs m 1 10 p hW (by have:=HL.o.1;omega) HL.o.2);rw[HA.o.2] at HF;generalize (Sk.out m 1 10)=oo at HF;generalize (Sk.found m 1 10)=ff at HF;have ZG:=H9 (HS.o.stay (gQ _ _));go_wp2;go_region_held3 (fun w'=>w'.cell? ⟨g,0,none⟩=some (.pointer (some ⟨gs,0,none⟩))) (go_keep) (first | (go_at_call 267;refine(HF.o _ ZG.o).mono ?_;rintro e w2 ⟨gW,cap',rfl,hO,hS2,hG2⟩;have hG3:=jW HG.o (jW (rA _ _) hG2);have c0':=(HC.o _ hG3).1;have HS2:=H9 hS2;have HG2:=H9 hG3;clear hO hS2 hG2 hG3))
      all_goals
       go_wp2;go_roundw
       case rel=>exact⟨2,by omega,by go_num,HS2.o,HG2.o⟩
       case measure=>simp[intOf]
inductive aaX (w:World)(g gs ah:Nat)(m:av)(h:Nat)(c:UInt8)(p:OP)(e:Ending)(w':World):Prop
 | mk (w1:World) (ao:ak) (cap n:Nat) (he:e=.returned (.tuple #[.slice ao n cap,.bool (Sk.found m h c)])) (hn:n=((Sk.out m h c).drop ah).length) (hw:w'=w1.setCell ⟨g,1,none⟩ (.int .i64 ((ah-(Sk.out m h c).length:Nat):Int))) (hB:iH w1 ao cap ((Sk.out m h c).drop ah)) (hlo:∀a,ao=some a->w.heap.size<=a.block) (hS:mR w1 gs m (Sk.after m h c) p) (hG:w.grownBy w1 (some gs))
theorem ES (w:World)(g gs ah:Nat)(m:av)(h:Nat)(c:UInt8)(p:OP)(c0:w.cell? ⟨g,0,none⟩=some (.pointer (some ⟨gs,0,none⟩)))(c1:w.cell? ⟨g,1,none⟩=some (.int .i64 (ah:Int)))(f1:w.frozen? ⟨g,1,none⟩=false)(hne:g≠gs)(hS:mR w gs m h p)(hh:h<=m.length-1)(hL:m.length<=1000)(ha:ah<=1000):
 Calls prog 292 #[.pointer (some ⟨g,0,none⟩),.int .u8 c.toNat] w fun e w'=>aaX w g gs ah m h c p e w':=by
 have HF:=H9 (Bf w gs m h c p hS hh (by omega));have hol:=Fm.yO m h c hh;have HC:Hid (∀W,w.grownBy W (some gs)->W.cell? ⟨g,0,none⟩=some (.pointer (some ⟨gs,0,none⟩))∧W.cell? ⟨g,1,none⟩=some (.int .i64 (ah:Int))∧W.frozen? ⟨g,1,none⟩=false):=fun W hG=>by
  have hn:(some g:Option Nat)≠some gs:=fun e=>hne (by injection e);refine⟨hG.cell c0 hn,hG.cell c1 hn,?_⟩;rw[gH (a:=⟨g,1,none⟩) (hG.block g (gq w _ c0) hn)];exact f1
 have hMk:∀(w1:World) (ao jy:ak) (cap n k:Nat),iF w1 w.heap.size 5 ao cap (Sk.out m h c)->mR w1 gs m (Sk.after m h c) p->w.grownBy w1 (some gs)->k=min ah (Sk.out m h c).length->n=(Sk.out m h c).length-k->(cap≠k->jy=ao.map (·.add k))->(cap=k->jy=ao)->aaX w g gs ah m h c p (.returned (.tuple #[.slice jy n (cap-k),.bool (Sk.found m h c)])) (w1.setCell ⟨g,1,none⟩ (.int .i64 ((ah-(Sk.out m h c).length:Nat):Int))):=fun w1 ao jy cap n k hO hS2 hG hk hn h1 h2=>by
  subst hk;have hd:(Sk.out m h c).drop ah=(Sk.out m h c).drop (min ah (Sk.out m h c).length):=by
   rcases Nat.le_total ah (Sk.out m h c).length with e | e
   . rw[dV e]
   . rw[Nat.min_eq_right e,aK e,aK (aM _)]
  have hcut:=hO.xg.cut (gW:=jy) (min ah (Sk.out m h c).length) (Sk.out m h c).length (Nat.min_le_right _ _) (aM _) h1;rw[dO (by rw[bV];omega),<-hd] at hcut;refine .mk w1 jy (cap-min ah (Sk.out m h c).length) n rfl (by rw[hd,bV];exact hn) rfl hcut (fun a e=>?_) hS2 hG;by_cases hc:cap=min ah (Sk.out m h c).length
  . rw[h2 hc] at e;exact(hO.block a e).1
  . rw[h1 hc] at e;cases ao with
    | none=>cases e
    | some a0=>simp at e;subst e;rw[add_block];exact(hO.block a0 rfl).1
 have HMk:=H9 hMk;generalize hout:Sk.out m h c=out at *;generalize hfd:Sk.found m h c=fd at *;obtain⟨no,hno⟩:∃no,out.length=no:=⟨_,rfl⟩;have sH:=H9 hno;rw[hno] at HF hol HMk;clear hMk c1 f1 hS hout hfd hno;go_enter func292,ntmps292;go_wp2_with fail
 refine HF.o.mono ?_;rintro e w1 ⟨ao,cap,rfl,hO,hS2,hG⟩;clear c0;obtain⟨c0,c1,f1⟩:=HC.o w1 hG;have hcap:no<=cap:=by have:=hO.xg.1;rw[sH.o] at this;exact this
 have hnil:ao=none->cap=0:=hO.xg.2.1;have HR:=H9 (fun jy n k=>HMk.o w1 ao jy cap n k hO hS2 hG);clear hO hS2 hG HF HMk;by_cases hle:ah<=no
 . have e1:min (ah:Int) (no:Int)=ah:=by omega
   have e2:ah-no=0:=by omega
   have e3:min ah no=ah:=dV hle;rw[e2,e3] at HR;by_cases hac:cap=ah
   . obtain rfl:no=ah:=by omega
     subst hac;go_wp2;go_ret2;have:=HR.o ao 0 cap rfl (by omega) (fun e=>absurd rfl e) (fun _=>rfl);simpa using this
   . cases ao with
     | none=>have:=hnil rfl;omega
     | some a0 =>
       go_wp2;go_ret2;exact HR.o _ _ ah rfl rfl (fun _=>rfl) (fun e=>absurd e hac)
 . have e1:min (ah:Int) (no:Int)=no:=by omega
   have e3:min ah no=no:=Nat.min_eq_right (by omega);have e4:((ah-no:Nat):Int)=(ah:Int)-no:=by omega
   rw[e3,e4] at HR;by_cases hac:cap=no
   . subst hac;go_wp2;go_ret2;have:=HR.o ao 0 cap rfl (by omega) (fun e=>absurd rfl e) (fun _=>rfl);simpa using this
   . cases ao with
     | none=>have:=hnil rfl;omega
     | some a0 =>
       go_wp2;go_ret2;have:=HR.o (some (a0.add no)) 0 no rfl (by omega) (fun _=>rfl) (fun e=>absurd e hac);simpa using this
def bkK (m:av)(k j:Nat):Value:=if j<=k then bkR m j else .int .i64 0
def wV (w:World)(lo g gb:Nat)(m:av)(mo:ak)(cap k:Nat):Prop :=
 w.heap[g]? = some (.cells #[.slice mo m.length cap,.slice (some ⟨gb,0,none⟩) m.length m.length,.int .i64 0] 298 (0,0)) ∧
  iF w lo 5 mo cap m∧w.rowIs gb 3 m.length (bkK m k)∧lo<=g∧lo<=gb
theorem zeros (m:av)(j:Nat):Value.int .i64 0=bkK m 1 j:=by
 unfold bkK;split
 . have e:j=0∨j=1:=by omega
   rcases e with rfl | rfl <;> rfl
 . rfl
theorem acz {w w1:World}{m:av}{ao:ak}{cap:Nat}(hO:iF w1 w.heap.size 5 ao cap m)(hb:aj w w1):
 wV ((w1.alloc (.cells (madeCells #[.int .i64 0] m.length) 3)).alloc (.cells #[.slice ao m.length cap,.slice (some ⟨w1.heap.size,0,none⟩) m.length m.length,.int .i64 0] 298)) w.heap.size (w1.heap.size+1) w1.heap.size m ao cap 1 ∧
 aj w ((w1.alloc (.cells (madeCells #[.int .i64 0] m.length) 3)).alloc (.cells #[.slice ao m.length cap,.slice (some ⟨w1.heap.size,0,none⟩) m.length m.length,.int .i64 0] 298)):=by
 have hs:=hb.size;refine⟨⟨?_,(hO.alloc _).alloc _,((World.rowIs_made w1 _ _ _).alloc _).congr (fun j _=>zeros m j),by omega,hs⟩,(hb.alloc hs _).alloc (by simp;omega) _⟩;have:=fI (w1.alloc (.cells (madeCells #[.int .i64 0] m.length) 3)) (.cells #[.slice ao m.length cap,.slice (some ⟨w1.heap.size,0,none⟩) m.length m.length,.int .i64 0] 298);simpa using this
theorem acA {w w1:World}{m:av}{ao:ak}{cap:Nat}(hO:iF w1 (w.alloc (.cells (madeCells #[.int .i64 0] m.length) 3)).drew.heap.size 5 ao cap m)(hb:Below (w.alloc (.cells (madeCells #[.int .i64 0] m.length) 3)).drew.heap.size (w.alloc (.cells (madeCells #[.int .i64 0] m.length) 3)).drew w1):
 wV (w1.alloc (.cells #[.slice ao m.length cap,.slice (some ⟨w.heap.size,0,none⟩) m.length m.length,.int .i64 0] 298)) w.heap.size w1.heap.size w.heap.size m ao cap 1 ∧
 aj w (w1.alloc (.cells #[.slice ao m.length cap,.slice (some ⟨w.heap.size,0,none⟩) m.length m.length,.int .i64 0] 298)):=by
 have hs:=hb.size;have e:(w.alloc (.cells (madeCells #[.int .i64 0] m.length) 3)).drew.heap.size=w.heap.size+1:=by simp
 rw[e] at hO hb hs;replace hb:=(gQ _ (w.alloc (.cells (madeCells #[.int .i64 0] m.length) 3))).trans hb;refine⟨⟨fI w1 _,(hO.mono (by omega)).alloc _,(((World.rowIs_made w _ _ _).of_block (hb.block _ (by omega))).alloc _).congr (fun j _=>zeros m j),by omega,aM _⟩,(((fJ _ _).alloc (aM _) _).trans (hb.mono (by omega))).alloc (by omega) _⟩
theorem Xt (m:av)(ao:ak)(cap:Nat)(w:World)(h:iH w ao cap m)(hL:m.length<=1000000):
 Calls prog 231 #[.slice ao m.length cap] w fun e w'=>∃g p,e=.returned (.pointer (some ⟨g,0,none⟩))∧mR w' g m 0 p∧w.heap.size<=g∧w.heap.size<=p.gb∧(∀a,p.mo=some a->w.heap.size<=a.block)∧aj w w':=by
 have H:=H9 h;have HC:=H9 (fun(W:World) (hW:iH W ao cap m)=>IG m ao cap W hW (by omega));have hmk:=run_make_row' (P:=prog) 55 3 (.int .i64 0) 8 underlying55 KX rfl .i64 .i64 m.length (by omega) (by omega);clear h;go_enter func231,ntmps231;go_upto_region 1 with fail
 go_cut [3] (fun p wc=>∃g gb mo cap',p=.pointer (some ⟨g,0,none⟩)∧wV wc w.heap.size g gb m mo cap' 1∧aj w wc)
 case first =>
  go_region_with (go_at_call 265;refine(HC.o _ (by first | exact H.o | exact H.o.alloc _)).mono ?_;rintro e w1 ⟨gW,cap',rfl,hO,hB⟩;have HO:=H9 hO;have HB:=H9 hB;clear hO hB)
  all_goals (go_wp2_with fail;go_meet;first | exact⟨_,_,_,_,rfl,acz HO.o ((gQ _ w).trans HB.o)⟩ | exact⟨_,_,_,_,rfl,acA HO.o HB.o⟩)
 case rest =>
  obtain⟨g,gb,mo,cap',rfl,hP,hB⟩:=hcut;have HP:=H9 hP;clear hP HC hmk H;go_wp2;go_loopw [4] (fun t wr=>∃n:Nat,0<n∧n<=m.length+1∧t=.int .i64 n∧wV wr w.heap.size g gb m mo cap' n∧aj w wr) (fun t _=>m.length+1-(intOf t).toNat)
  case atStart=>exact⟨1,by omega,by omega,rfl,HP.o,hB⟩
  case round =>
   obtain⟨n,hn0,hnl,rfl,hP,hb⟩:=hrel;clear HP hB;have HP:=H9 hP;obtain⟨hg,hm,hk,Zc,hlb⟩:=hP;have c0:wr.cell? ⟨g,0,none⟩=some (.slice mo m.length cap'):=fK wr g 0 _ _ _ hg;have c1:wr.cell? ⟨g,1,none⟩=some (.slice (some ⟨gb,0,none⟩) m.length m.length):=fK wr g 1 _ _ _ hg;by_cases hlt:n+1<m.length
   . obtain⟨gm,rfl,_,hmc⟩:=hm.head (by omega);have cm:=hmc n (by omega);have cb:wr.cell? ⟨gb,n,none⟩=some (.int .i64 (Sk.bk m n)):=by
      rw[hk.cell (by omega)];unfold bkK;rw[if_pos (aM _)];rfl
     have cb1:wr.cell? ⟨gb,n+1,none⟩=some (.int .i64 0):=by
      rw[hk.cell hlt];unfold bkK;rw[if_neg (by omega)]
     have fb1:wr.frozen? ⟨gb,n+1,none⟩=false:=hk.frozen _;have hgb:gb≠g:=Gw hg hk (by decide);have hmb:gm≠gb:=by
      intro e;subst e;obtain⟨cc,hcc,_⟩:=hk;have:=lG hcc hm (by decide);simp[Value.ownBlock] at this
     have hbl:=Sk.Vx m n hn0;have HF:=H9 (QM m (Sk.bk m n) m[n] g gm gb cap' wr.drew (by omega) (by omega) c0 c1 hmc (fun j hj0 hjn=>by
      refine(hk.cell (show j<m.length by omega)).trans ?_;unfold bkK;rw[if_pos (by omega)];rfl))
     rw[<-Sk.YT m n hn0 (by omega)] at HF;have HK:Hid (wV (wr.drew.setCell ⟨gb,n+1,none⟩ (.int .i64 (Sk.bk m (n+1)))) w.heap.size g gb m (some ⟨gm,0,none⟩) cap' (n+1)∧aj w (wr.drew.setCell ⟨gb,n+1,none⟩ (.int .i64 (Sk.bk m (n+1))))):=by
      refine⟨⟨?_,?_,(hk.set (n+1) (.int .i64 (Sk.bk m (n+1)))).congr (fun j _=>?_),Zc,hlb⟩,(hb.trans (gQ _ _)).setCell hlb _⟩
      . rw[gD _ _ _ _ (fun e=>hgb e.symm)];exact hg
      . exact iF.kept (w:=wr.drew) hm ⟨rfl,rfl,rfl,by simp[World.setCell],fun k _ hne=>gD _ _ k _ (fun e=>hne (by rw[e]))⟩ (row:=some gb) (fun a e=>by cases e;intro e;injection e with e;exact hmb e)
      . unfold bkK;by_cases e:j=n+1
        . subst e;rw[if_pos rfl,if_pos (aM _)];rfl
        . rw[if_neg e];by_cases e2:j<=n
          . rw[if_pos e2,if_pos (by omega)]
          . rw[if_neg e2,if_neg (by omega)]
     generalize Sk.bk m (n+1)=r at HF HK;generalize Sk.bk m n=q at HF cb hbl;generalize m[n]=x at HF cm;have ht:decide ((n:Int)+1<m.length)=true:=by rw[bR];omega
     have b1:(n:Int)<m.length:=by omega
     have b2:(n:Int)+1<m.length:=by omega
     have b3:IntKind.i64.wrap ((n:Int)+1)=(n:Int)+1:=lZ (by omega) (by omega);have b4:(0:Int)<=(n:Int)+1:=by omega
     have b5:((n:Int)+1).toNat=n+1:=by omega
     have k1:(wr.setCell ⟨gb,n+1,none⟩ (.int .i64 (r:Int))).cell? ⟨gm,n,none⟩=some (.int .u8 (x.toNat:Int)):=(fQ wr ⟨gb,n+1,none⟩ ⟨gm,n,none⟩ _ (fun e=>by injection e with e _ _;exact hmb e.symm)).trans cm;have k2:(wr.setCell ⟨gb,n+1,none⟩ (.int .i64 (r:Int))).cell? ⟨gb,n,none⟩=some (.int .i64 (q:Int)):=(fQ wr ⟨gb,n+1,none⟩ ⟨gb,n,none⟩ _ (fun e=>by injection e with _ e _;omega)).trans cb;clear hg hm hk HP hmc;go_wp2;go_region_held3 (fun w'=>w'.cell? ⟨g,0,none⟩=some (.slice (some ⟨gm,0,none⟩) m.length cap')∧w'.cell? ⟨g,1,none⟩=some (.slice (some ⟨gb,0,none⟩) m.length m.length)∧w'.cell? ⟨gm,n,none⟩=some (.int .u8 (x.toNat:Int))∧w'.cell? ⟨gb,n,none⟩=some (.int .i64 (q:Int))) (go_keep) (first | (go_at_call 266;refine HF.o.mono ?_;rintro e w' ⟨rfl,rfl⟩))
     all_goals
      clear k1 k2;go_wp2;go_roundw
      case rel=>exact⟨n+1,by omega,by omega,by go_num,HK.o.1,HK.o.2⟩
      case measure=>simp[intOf];omega
   . have ht:decide ((n:Int)+1<m.length)=false:=by rw[bQ];omega
     have HF:Hid (mR wr g m 0 ⟨mo,cap',gb⟩):=⟨hg,hm.mono (aA _),hk.congr (fun j hj=>by unfold bkK;rw[if_pos (by omega)])⟩;have HMo:Hid (∀a,mo=some a->w.heap.size<=a.block):=fun a e=>(hm.block a e).1;clear hg hm hk HP;go_wp2;go_ret;exact⟨g,⟨mo,cap',gb⟩,rfl,HF.o,Zc,hlb,HMo.o,hb⟩
end Go.Proofs.YtjmndjmhjleabaaGreatDoor