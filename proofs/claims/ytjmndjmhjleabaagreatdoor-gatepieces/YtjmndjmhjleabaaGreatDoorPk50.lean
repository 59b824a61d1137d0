/- Small texts, one behind the other: RfRp, RpC, RpD, GaB, GaC, GaD, GaE, GaF, GaG, GaH, GaI. -/
import Derived.Test.YtjmndjmhjleabaaGreatDoorPk24
import Derived.Test.YtjmndjmhjleabaaGreatDoorPk19
import Derived.Test.YtjmndjmhjleabaaGreatDoorPk5
import Derived.Test.YtjmndjmhjleabaaGreatDoorPk16
import Derived.Test.YtjmndjmhjleabaaGreatDoorPk10
import Derived.Deep.DeepCutAuto
import Derived.Deep.RegionHeld
import Derived.Deep.RegionHeldLaw
import Derived.Test.YtjmndjmhjleabaaGreatDoorPk8
import Derived.Test.YtjmndjmhjleabaaGreatDoorPk44
import Derived.Test.YtjmndjmhjleabaaGreatDoorPk30
import Derived.Test.YtjmndjmhjleabaaGreatDoorPk17
import Derived.Test.YtjmndjmhjleabaaGreatDoorPk48
import Derived.Test.YtjmndjmhjleabaaGreatDoorPk18
import Derived.Test.YtjmndjmhjleabaaGreatDoorPk49
import Derived.Test.YtjmndjmhjleabaaGreatDoorPk47
import Derived.Test.YtjmndjmhjleabaaGreatDoorPk40
set_option maxHeartbeats 6400000
set_option maxRecDepth 100000
open Go.Proofs.Tryz
namespace Go.Proofs.YtjmndjmhjleabaaGreatDoor
open Go.RowKit
def RU:ByteArray:=⟨#[99,111,110,116,101,110,116,45,108,101,110,103,116,104]⟩
def Rp.out (st:Int)(l:List (ByteArray×ByteArray))(body:List UInt8):List UInt8×Nat:=Rp.text st l (Fd.vals RU l).length body
inductive Xo (w:World)(r:List UInt8×Nat)(e:Ending)(w':World):Prop
 | bad (c:Nat) (hc:c≠0) (he:e=.returned (.tuple #[.slice none 0 0,.int .i64 (c:Int)])) (ht:r=([],c)) (hB:Below w.heap.size w w')
 | ok (g cap n:Nat) (he:e=.returned (.tuple #[.slice (some ⟨g,0,none⟩) n cap,.int .i64 0])) (hn:n=r.1.length) (ht:r.2=0) (hO:Buf w' w.heap.size g cap r.1) (hB:Below w.heap.size w w')
theorem yL (p:ByteArray×ByteArray)(h:p.1.size<=2000∧p.2.size<=2000):(Rp.jA p).length<=4004:=by
 have e1:p.1.data.toList.length=p.1.size:=by rw[Array.length_toList];rfl
 have e2:p.2.data.toList.length=p.2.size:=by rw[Array.length_toList];rfl
 have h3:(Fd.text p.1.data.toList p.2.data.toList).1.length<=p.1.data.toList.length+2+p.2.data.toList.length:=by
  unfold Fd.text;split
  . simp
  . split
    . simp
    . split
      . simp
      . simp;omega
 unfold Rp.jA;rw[List.length_append];simp only[List.length_cons,List.length_nil];omega
theorem vE:∀(l:List (ByteArray×ByteArray)),(∀p∈l,p.1.size<=2000∧p.2.size<=2000)->(l.flatMap Rp.jA).length<=l.length*4004
 | [],_=>by simp
 | p :: t, h => by
   have h1:=vE t (fun q hq=>h q (by simp[hq]));have h2:=yL p (h p (by simp));rw[List.flatMap_cons,List.length_append,List.length_cons];omega
theorem Rp.A9 (p:ByteArray×ByteArray)(h:(Fd.text p.1.data.toList p.2.data.toList).2=0):∀l:List (ByteArray×ByteArray),Rp.code (l++[p])=Rp.code l
 | []=>by simp[Rp.code,h]
 | q::t=>by rw[List.cons_append,Rp.code,Rp.code,Rp.A9 p h t]
theorem EB (l:List (ByteArray×ByteArray)):Fd.vals OX l=Fd.vals RU l:=by
 unfold Fd.vals;rw[show Ch.lower OX.data.toList=Ch.lower RU.data.toList by decide]
def EC (nb:Nat):ByteArray×ByteArray:=(OX,⟨(Ch.bY 8 nb).toArray⟩)
theorem OY {nb:Nat}(h:nb<1000000000):(Fd.text (EC nb).1.data.toList (EC nb).2.data.toList).2=0:=(Rp.JL h).1
theorem OZ {nb:Nat}(h:nb<1000000000):Rp.jA (EC nb)=Rp.cl++Ch.bY 8 nb++[13,10]:=by
 unfold Rp.jA;have:=(Rp.JL h).2;rw[show(EC nb).1.data.toList=Rp.Y0 from rfl,show(EC nb).2.data.toList=Ch.bY 8 nb from rfl,this]
theorem Rp.Lb {st:Int}{l:List (ByteArray×ByteArray)}{body:List UInt8}(h:Rp.fault st l≠0):Rp.out st l body=([],Rp.fault st l):=by
 unfold Rp.fault at h ⊢;unfold Rp.out Rp.text;rw[EB] at h ⊢;split
 . rfl
 . rename_i h1;rw[if_neg h1] at h;split
   . rfl
   . rename_i h2;rw[if_neg h2] at h;split
     . rfl
     . rename_i h3;rw[if_neg h3] at h;exact absurd rfl h
theorem Rp.O0 {st:Int}{l:List (ByteArray×ByteArray)}{body:List UInt8}(h:Rp.fault st l=0)(hb:body.length<1000000000):Rp.word st≠[]∧l.length<16∧Rp.out st l body=if Rp.code (l++[EC body.length])≠0 then ([],Rp.code (l++[EC body.length])) else (Rp.first st++(l++[EC body.length]).flatMap Rp.jA++[13,10]++body,0):=by
 rw[Rp.A9 _ (OY hb),List.flatMap_append];unfold Rp.fault at h;unfold Rp.out Rp.text;rw[EB] at h;by_cases h1:Rp.word st=[]
 . rw[if_pos h1] at h;cases h
 rw[if_neg h1] at h ⊢;by_cases h2:16<=l.length
 . rw[if_pos h2] at h;cases h
 rw[if_neg h2] at h ⊢;by_cases h3:(Fd.vals RU l).length≠0
 . rw[if_pos h3] at h;cases h
 rw[if_neg h3];refine⟨h1,by omega,?_⟩;split
 . rfl
 . congr 1;simp[OZ hb]
structure ED (w:World)(cs:Array Value)(T:Nat)(ls:List (ByteArray×ByteArray))(ao:Option Addr)(aR g cap:Nat)(acc:List UInt8)(W:World):Prop where
 one:gF w cs T W
 buf:Buf W (w.heap.size+1) g cap acc
 row:cu W ao aR ls.length (aB ls)
 apart:∀a,ao=some a->a.block≠g∧a.block<W.heap.size
theorem ED.stay {w W W':World}{cs:Array Value}{T:Nat}{ls:List (ByteArray×ByteArray)}{ao:Option Addr}{aR g cap:Nat}{acc:List UInt8}(h:ED w cs T ls ao aR g cap acc W)(hb:Below W.heap.size W W'):ED w cs T ls ao aR g cap acc W' :=
 ⟨h.one.stay hb,h.buf.keep hb,h.row.stay hb,fun a e=>⟨(h.apart a e).1,Nat.lt_of_lt_of_le (h.apart a e).2 hb.size⟩⟩
theorem ED.grow {w W W':World}{cs:Array Value}{T:Nat}{ls:List (ByteArray×ByteArray)}{ao:Option Addr}{aR g cap g' cap':Nat}{acc acc':List UInt8}(h:ED w cs T ls ao aR g cap acc W)(hU:Buf W' (w.heap.size+1) g' cap' acc')(hT:Turns (fun k=>k=g) W W')(hg:g'=g∨g'=W.heap.size):ED w cs T ls ao aR g' cap' acc' W':=by
 have hgb:=h.buf.AQ;refine⟨h.one.turns hT (fun k e=>by omega),hU,h.row.turns hT (fun a e=>(h.apart a e).1),fun a e=>⟨fun e2=>?_,Nat.lt_of_lt_of_le (h.apart a e).2 hT.size⟩⟩;obtain⟨h1,h2⟩:=h.apart a e;rcases hg with hg | hg
 . omega
 . omega
theorem GY (w:World)(st:Int)(l:List (ByteArray×ByteArray))(fo bo:Option Addr)(ak aj nb:Nat)(body:List UInt8)(hl:cu w fo ak l.length (aB l))(hN:l.length<=1000000)(hs:∀p∈l,p.1.size<=2000∧p.2.size<=2000)(hb:body.length=nb)(hBd:aU w bo aj body)(hnb:nb<=100000)(hP:gU w):
 Calls prog 107 #[.agg #[.int .i64 st,.slice fo l.length ak,.slice bo nb aj]] w fun e w'=>Xo w (Rp.out st l body) e w':=by
 subst hb;obtain⟨j0,hj0,hy0,hy1,hy2⟩:=info_parts dQ;have Hj:=H9 hj0;have M9:=H9 hy0;have Na:=H9 hy1;have Nb:=H9 hy2
 obtain⟨i0,hi0,hz0,hz1,hz2⟩:=info_parts l9;have Hi:=H9 hi0;have gQ:=H9 hz0;have gK:=H9 hz1;have gT:=H9 hz2
 have HV:=H9 hl;have HS:=H9 hs;have yJ:=H9 hBd;have HP:=H9 hP
 have HX:Hid (∀W,gF w #[.int .i64 st,.slice fo l.length ak,.slice bo body.length aj] 88 W->W.cell? ⟨w.heap.size,0,none⟩=some (.int .i64 st)∧W.cell? ⟨w.heap.size,1,none⟩=some (.slice fo l.length ak)∧W.cell? ⟨w.heap.size,2,none⟩=some (.slice bo body.length aj)):=fun W h=>⟨h.cell 0,h.cell 1,h.cell 2⟩;have H0:=H9 (gF.made w #[.int .i64 st,.slice fo l.length ak,.slice bo body.length aj] 88);have Wo:=H9 (GV _ st l fo bo ak aj body.length (hl.stay H0.o.below) hN hs);have hwl:=Rp.Dq st;clear hl hs hBd hj0 hy0 hy1 hy2 hi0 hz0 hz1 hz2 hP;obtain⟨x0,x1,x2⟩:=HX.o _ H0.o;by_cases hft:Rp.fault st l=0
 . obtain⟨hwd,h16,hout⟩:=Rp.O0 (body:=body) hft (by omega);have HT:=H9 hout;rw[hft] at Wo;clear hout hft;obtain⟨hs1,hs2⟩:=Rp.NQ hwd;obtain⟨sn,rfl⟩:∃sn:Nat,st=(sn:Int):=⟨st.toNat,by omega⟩;have RS:Hid (∀W,Calls prog 145 #[.int .i64 (sn:Int)] W fun e w'=>e=.returned (.string ⟨(Rp.word sn).toArray⟩)∧w'=W):=fun W=>yK sn W;have hwz:(⟨(Rp.word sn).toArray⟩:ByteArray).size<=22:=by show(Rp.word sn).toArray.size<=22;rw[List.size_toArray];exact hwl
   have HWd:Hid ((⟨(Rp.word sn).toArray⟩:ByteArray).data.toList=Rp.word sn):=rfl;have TJ:Hid (∀W,gF w #[.int .i64 (sn:Int),.slice fo l.length ak,.slice bo body.length aj] 88 W->Calls prog 122 #[.int .i64 (sn:Int)] W fun e w'=>e=.returned (.string ⟨(Ch.bY 8 sn).toArray⟩)∧Below W.heap.size W w'):=fun W h=>mg sn (by omega) W (HP.o.stay h.below);have UZ:Hid (∀W,gF w #[.int .i64 (sn:Int),.slice fo l.length ak,.slice bo body.length aj] 88 W->Calls prog 122 #[.int .i64 (body.length:Int)] W fun e w'=>e=.returned (.string (EC body.length).2)∧Below W.heap.size W w'):=fun W h=>mg body.length (by omega) W (HP.o.stay h.below);have hdl:=Ch.dA 8 sn;have hdz:(⟨(Ch.bY 8 sn).toArray⟩:ByteArray).size<=9:=by show(Ch.bY 8 sn).toArray.size<=9;rw[List.size_toArray];omega
   have HDd:Hid ((⟨(Ch.bY 8 sn).toArray⟩:ByteArray).data.toList=Ch.bY 8 sn):=rfl;have ZH:=Ch.dA 8 body.length;have hpz:(EC body.length).2.size<=9:=by show(Ch.bY 8 body.length).toArray.size<=9;rw[List.size_toArray];omega
   have Xp:Hid (∀p∈l++[EC body.length],p.1.size<=2000∧p.2.size<=2000):=fun p hp=>by
    rcases List.mem_append.1 hp with hp | hp
    . exact HS.o p hp
    . rw[List.mem_singleton.1 hp];exact⟨by show OX.size<=2000;decide,by omega⟩
   have Xq:Hid ((l++[EC body.length]).length=l.length+1):=by unfold Hid;simp
   have HPV:Hid (aB (l++[EC body.length])=aB l++[.string OX,.string (EC body.length).2]):=by unfold Hid;simp[aB,EC]
   generalize ZI:(EC body.length).2=pd at *;generalize hll:l++[EC body.length]=ls at *;clear ZI hll;generalize (⟨(Rp.word sn).toArray⟩:ByteArray)=wd at *;generalize (⟨(Ch.bY 8 sn).toArray⟩:ByteArray)=db at *;clear hwd hwl hdl ZH;obtain⟨z,hz⟩:∃z:ByteArray,z=⟨#[72,84,84,80,47,49,46,49,32]⟩++db++⟨#[32]⟩++wd++⟨#[13,10]⟩:=⟨_,rfl⟩;have hzs:z.size=9+db.size+1+wd.size+2:=by rw[hz];simp only[ByteArray.size_append];rfl
   have hzd:z.data.toList=Rp.first sn:=by rw[hz];simp only[Ch.data_append,HDd.o,HWd.o];rfl
   have hsk:=fun W=>Gr (P:=prog) W z 9 31 5 (by unfold maxLen;omega) underlying9 underlying31 underlying5;obtain⟨Xr,hsk⟩:=Classical.skolem.1 hsk;obtain⟨wF,hsk⟩:=Classical.skolem.1 hsk;have hcv:=fun W=>(hsk W).1;have RV:Hid (∀W,Below W.heap.size W (wF W)∧Buf (wF W) W.heap.size W.heap.size (Xr W) (Rp.first sn)):=fun W=>by have:=(hsk W).2;rw[hzd] at this;exact this
   obtain⟨zn,hzn⟩:∃zn,z.size=zn:=⟨_,rfl⟩;have HZl:Hid ((Rp.first sn).length=zn):=by unfold Hid;rw[<-hzd,Array.length_toList];exact hzn
   have hzl:zn<=60:=by omega
   rw[hzn] at hcv;rw[hz] at hcv;clear hsk hzs hzd hz hzn;go_enter func107,ntmps107;go_wp2_with fail
   refine Wo.o.mono ?_;rintro e w1 ⟨rfl,hb1⟩;have vZ:=H9 (H0.o.stay hb1);clear hb1 H0 x0 x1 x2 Wo;obtain⟨x0,x1,x2⟩:=HX.o w1 vZ.o;go_upto_region 4 with fail
   go_cut [5] (fun v wc=>∃g cap,v=.slice (some ⟨g,0,none⟩) zn cap∧Buf wc (w.heap.size+1) g cap (Rp.first sn)∧gF w #[.int .i64 (sn:Int),.slice fo l.length ak,.slice bo body.length aj] 88 wc)
   case first =>
    have Wp:=H9 (vZ.o.stay (aA _ _));have TK:Hid (∀W,gF w #[.int .i64 (sn:Int),.slice fo l.length ak,.slice bo body.length aj] 88 W->(wF W).cell? ⟨w.heap.size,0,none⟩=some (.int .i64 (sn:Int))):=fun W h=>(HX.o _ (h.stay (RV.o W).1)).1;have Lc:Hid (∀W,gF w #[.int .i64 (sn:Int),.slice fo l.length ak,.slice bo body.length aj] 88 W->Buf (wF W) (w.heap.size+1) W.heap.size (Xr W) (Rp.first sn)∧gF w #[.int .i64 (sn:Int),.slice fo l.length ak,.slice bo body.length aj] 88 (wF W)):=fun W h=>by
     have hU:=(RV.o W).2;exact⟨⟨h.lt,hU.lt,hU.le,hU.max,hU.holds,hU.there⟩,h.stay (RV.o W).1⟩
    go_region_held (fun W=>W.cell? ⟨w.heap.size,0,none⟩=some (.int .i64 (sn:Int))) (first | exact TK.o _ Wp.o | go_keep) (first
     | (go_at_call 122;refine(TJ.o _ Wp.o).mono ?_;rintro e v1 ⟨rfl,hb1⟩;have QU:=Wp.o.stay hb1;clear Wp;have Wp:=H9 QU;have q0:=(HX.o v1 QU).1;clear QU hb1)
     | (go_at_call 145;refine(RS.o _).mono ?_;rintro e v1 ⟨rfl,hv1⟩;subst hv1))
    all_goals
     (try go_wp2);go_meet;obtain⟨f1,f2⟩:=Lc.o _ Wp.o;exact⟨_,_,rfl,f1,f2⟩
   case rest =>
    obtain⟨g,cap,rfl,hU,hOc⟩:=hcut;have HU:=H9 hU;have Y1:=H9 hOc
    clear x0 x1 x2 hU hOc vZ RS TJ RV hcv HDd HWd hwz hdz;obtain⟨x0,x1,x2⟩:=HX.o wc Y1.o;go_wp2_with fail
    refine(UZ.o _ Y1.o).mono ?_;rintro e w2 ⟨rfl,hb2⟩;have Ca:=H9 (Y1.o.stay hb2);have ZJ:=H9 (HU.o.keep hb2)
    clear x0 x1 x2 hb2 HU Y1 UZ;obtain⟨x0,x1,x2⟩:=HX.o w2 Ca.o;have hOb:=Ca.o.stay ((Below.refl _ w2).alloc (Nat.le_refl _) (.cells #[.string ⟨#[67,111,110,116,101,110,116,45,76,101,110,103,116,104]⟩,.string pd] 111));have ZK:=ZJ.o.alloc (.cells #[.string ⟨#[67,111,110,116,101,110,116,45,76,101,110,103,116,104]⟩,.string pd] 111);have y0:=prNew w2 ⟨#[67,111,110,116,101,110,116,45,76,101,110,103,116,104]⟩ pd 111 rfl 0 _ rfl;have y1:=prNew w2 ⟨#[67,111,110,116,101,110,116,45,76,101,110,103,116,104]⟩ pd 111 rfl 1 _ rfl;rw[Addr.add_lit,Nat.zero_add] at y0 y1;go_upto_region 6 with fail
    have hgw:=ZJ.o.lt;have wm:Hid (g<(w2.alloc (.cells #[.string ⟨#[67,111,110,116,101,110,116,45,76,101,110,103,116,104]⟩,.string pd] 111)).heap.size):=ZK.lt;clear x0 x1 x2 ZJ Ca hgw;generalize (w2.alloc (.cells #[.string ⟨#[67,111,110,116,101,110,116,45,76,101,110,103,116,104]⟩,.string pd] 111))=wb at *;generalize w2.heap.size=k2 at *;obtain⟨x0,x1,x2⟩:=HX.o wb hOb;have HOb:=H9 hOb;have U0:=H9 ZK
    have sZ:Hid (∀W,Below wb.heap.size wb W->W.cell? ⟨w.heap.size,1,none⟩=some (.slice fo l.length ak)∧W.cell? ⟨k2,0,none⟩=some (.string ⟨#[67,111,110,116,101,110,116,45,76,101,110,103,116,104]⟩)∧W.cell? ⟨k2,1,none⟩=some (.string pd)):=fun W hW =>
     ⟨(hW.cell (World.block_lt_of_cell? wb _ x1)).trans x1,(hW.cell (World.block_lt_of_cell? wb _ y0)).trans y0,(hW.cell (World.block_lt_of_cell? wb _ y1)).trans y1⟩
    have sV:=H9 (fun W (hW:Below wb.heap.size wb W)=>vY l fo ak l.length W (HV.o.stay (then_ hOb.below hW)) rfl hN);clear hOb ZK x0 x2;go_cut [37,38,39] (fun v37 v38 v39 wd=>∃gf Le,v37=.slice (some ⟨gf,0,none⟩) (l.length+1) Le∧v38=.int .i64 ((l.length:Int)+1)∧v39=.int .i64 0∧aC wd 0 111 2 (some ⟨gf,0,none⟩) Le (l.length+1) (aB l++[.string ⟨#[67,111,110,116,101,110,116,45,76,101,110,103,116,104]⟩,.string pd])∧wb.heap.size<=gf∧Below wb.heap.size wb wd)
    case first =>
     have U1:Hid (Below wb.heap.size wb wb.drew):=aA _ _;have U2:Hid (Below wb.heap.size wb (wb.alloc (.cells #[.string ⟨#[67,111,110,116,101,110,116,45,76,101,110,103,116,104]⟩,.string pd] 111)).drew):=((Below.refl _ _).alloc (Nat.le_refl _) _).trans (aA _ _);have RX:Hid (l.length+1<=maxLen∧(l.length+1)*32<=140737488355328):=⟨by unfold maxLen;omega,by omega⟩;have UO:Hid (∀(W:World) (ao:Option Addr) (cp g6:Nat),aC W wb.heap.size 111 2 ao cp l.length (aB l)->∀k,wb.heap.size<=k->((Value.slice ao l.length cp).ownBlock=some g6∨g6=k)->wb.heap.size<=g6):=fun W ao cp g6 hO k hk h=>by
      rcases h with h | h
      . rw[ay] at h;cases ao with
        | none=>cases h
        | some a=>injection h with h;subst h;exact(hO.block a rfl).1
      . omega
     go_region_held_law (fun w'=>w'.cell? ⟨w.heap.size,1,none⟩=some (.slice fo l.length ak)∧w'.cell? ⟨k2,0,none⟩=some (.string ⟨#[67,111,110,116,101,110,116,45,76,101,110,103,116,104]⟩)∧w'.cell? ⟨k2,1,none⟩=some (.string pd)) (first | go_keep | exact HK6.o | exact HK5.o | exact HKA.o) (first
      | (refine step_append_lies _ (by rfl) _ _ _ (by rfl) 0 111 i0 (.agg #[.string ⟨#[]⟩,.string ⟨#[]⟩]) 2 32 underlying66 Hi.o gQ.o gK.o gT.o (by rfl) (by decide) (.slice vW l.length cap5) l.length (aB l) (by rfl) ((zI.o.mono (Nat.zero_le _)).alloc _) ⟨w5.heap.size,0,none⟩ 1 1 [.string ⟨#[67,111,110,116,101,110,116,45,76,101,110,103,116,104]⟩,.string pd] (by rfl) (by rfl) (prNew _ _ _ _ rfl) (Gy _ _) (by decide) RX.o.1 RX.o.2 (Nat.zero_le _) (w5.heap.size+1) (by simp) ?_;intro g6 cap6 w6 hown6 hgrow oJ U3;have D6:=H9 hown6;have qj:=H9 (JC (kU.o.trans ((Below.refl _ _).alloc kU.o.size _)) zI.o hgrow (Nat.le_refl _));have Y2:=H9 (UO.o _ _ _ g6 zI.o _ (Nat.le_succ_of_le kU.o.size) oJ);have HK6:=H9 (sZ.o w6 qj.o);clear hown6 hgrow oJ U3;(try simp only[Act.put,List.getElem_toArray,List.getElem_cons_succ,List.getElem_cons_zero,List.setIfInBounds_toArray,List.set_cons_zero,List.set_cons_succ]))
      | (refine step_append_lies _ (by rfl) _ _ _ (by rfl) 0 111 i0 (.agg #[.string ⟨#[]⟩,.string ⟨#[]⟩]) 2 32 underlying66 Hi.o gQ.o gK.o gT.o (by rfl) (by decide) (.slice vW l.length cap5) l.length (aB l) (by rfl) (zI.o.mono (Nat.zero_le _)) ⟨wb.heap.size,0,none⟩ 1 1 [.string ⟨#[67,111,110,116,101,110,116,45,76,101,110,103,116,104]⟩,.string pd] (by rfl) (by rfl) HNB.o (Gy _ _) (by decide) RX.o.1 RX.o.2 (Nat.zero_le _) w5.heap.size (by rfl) ?_;intro g6 cap6 w6 hown6 hgrow oJ U3;have D6:=H9 hown6;have qj:=H9 (JC (kU.o) zI.o hgrow (Nat.le_refl _));have Y2:=H9 (UO.o _ _ _ g6 zI.o _ kU.o.size oJ);have HK6:=H9 (sZ.o w6 qj.o);clear hown6 hgrow oJ U3;(try simp only[Act.put,List.getElem_toArray,List.getElem_cons_succ,List.getElem_cons_zero,List.setIfInBounds_toArray,List.set_cons_zero,List.set_cons_succ]))
      | (go_at_call 146;refine(sV.o _ U2.o).mono ?_;rintro e w5 ⟨vW,cap5,rfl,yH,wN⟩;have zI:=H9 (yH.mono U2.o.size);have kU:=H9 (U2.o.trans (wN.mono (by simp)));have HK5:=H9 (sZ.o w5 kU.o);have HNB:=H9 (Xg wN);clear yH wN)
      | (go_at_call 146;refine(sV.o _ U1.o).mono ?_;rintro e w5 ⟨vW,cap5,rfl,yH,wN⟩;have zI:=H9 (yH.mono U1.o.size);have kU:=H9 (U1.o.trans (wN.mono (Nat.le_refl _)));have HK5:=H9 (sZ.o w5 kU.o);have HKA:=H9 (sZ.o _ (kU.o.trans ((Below.refl _ w5).alloc kU.o.size (.cells #[.string ⟨#[67,111,110,116,101,110,116,45,76,101,110,103,116,104]⟩,.string pd] 111))));clear yH wN))
     all_goals (go_wp2;go_meet;exact⟨g6,cap6,rfl,rfl,rfl,D6.o,Y2.o,qj.o⟩)
    case rest =>
     obtain⟨gf,Le,rfl,rfl,rfl,vF,Wq,ZL⟩:=hcut;have hrow:cu wc (some ⟨gf,0,none⟩) Le (l.length+1) (aB ls):=by rw[HPV.o];exact vF.lQ
     have CW:Hid (ED w #[.int .i64 (sn:Int),.slice fo l.length ak,.slice bo body.length aj] 88 ls (some ⟨gf,0,none⟩) Le g cap (Rp.first sn) wc) :=
      ⟨HOb.o.stay ZL,U0.o.keep ZL,by rw[Xq.o];exact hrow,fun a e=>by injection e with e;subst e;exact⟨by have:=wm.o;show gf≠g;omega,(vF.block _ rfl).2⟩⟩
     clear vF Wq ZL hrow sZ sV HOb U0 y0 y1 x1 wm;go_wp2;go_loopw [5,39] (fun vo vi wr=>∃(i n g cap:Nat),i<=l.length+1∧vi=.int .i64 i∧vo=.slice (some ⟨g,0,none⟩) n cap∧(Rp.first sn++(ls.take i).flatMap Rp.jA).length=n∧(∀p∈ls.take i,(Fd.text p.1.data.toList p.2.data.toList).2=0)∧ED w #[.int .i64 (sn:Int),.slice fo l.length ak,.slice bo body.length aj] 88 ls (some ⟨gf,0,none⟩) Le g cap (Rp.first sn++(ls.take i).flatMap Rp.jA) wr) (fun _ vi _=>l.length+1-(intOf vi).toNat)
     case atStart=>exact⟨0,_,_,_,Nat.zero_le _,rfl,rfl,by simpa using HZl.o,fun p hp=>by simp at hp,by simpa using CW.o⟩
     case round =>
      obtain⟨i,n,g,cap,hi,rfl,rfl,hn,vG,hR⟩:=hrel;have HR:=H9 hR;have O4:=H9 hn;have Ws:=H9 vG
      have hnl:n<=200000:=by
       have h2:=vE (ls.take i) (fun p hp=>Xp.o p (List.mem_of_mem_take hp));have h3:(ls.take i).length<=16:=by rw[List.length_take,Xq.o];omega
       rw[List.length_append,HZl.o] at hn;omega
      clear hR CW hn vG;obtain⟨x0,x1,x2⟩:=HX.o wr HR.o.one;by_cases hlt:i<l.length+1
      . have hlt':(i:Int)<(l.length:Int)+1:=by omega
        have Wt:i<ls.length:=by rw[Xq.o];exact hlt
        have hp1:=HR.o.row.cell (kG ls i Wt).1;have hp2:=HR.o.row.cell (kG ls i Wt).2;rw[Addr.add_lit,Nat.zero_add] at hp1 hp2;have hfc:=HR.o.row.1;rw[Xq.o] at hfc;have hps:=Xp.o ls[i] (List.getElem_mem Wt);have pQ:Hid (ls.take (i+1)=ls.take i++[ls[i]]):=List.take_succ_eq_append_getElem Wt;have ZM:Hid ((Fd.text ls[i].1.data.toList ls[i].2.data.toList).2≠0->Rp.code ls=(Fd.text ls[i].1.data.toList ls[i].2.data.toList).2):=fun hc=>Rp.Dr ls i Wt Ws.o hc;generalize ls[i]=p at *;have qg:=H9 (O3 p.1 p.2 (wr.alloc (.cells #[.string p.1,.string p.2] 111)) (by omega) (by omega));have hll:=yL p hps;have U4:Hid (Rp.jA p=(Fd.text p.1.data.toList p.2.data.toList).1++[13,10]):=rfl;have Y3:Hid (Below wr.heap.size wr (wr.alloc (.cells #[.string p.1,.string p.2] 111))):=(Below.refl _ _).alloc (Nat.le_refl _) _;unfold nL at qg;generalize hcd:(Fd.text p.1.data.toList p.2.data.toList).2=cd at *;generalize (Fd.text p.1.data.toList p.2.data.toList).1=tx at *;have ZN:=H9 hcd;clear hps Wt hcd;by_cases hc0:cd=0
        . subst hc0;have hxz:((⟨tx.toArray⟩:ByteArray)++⟨#[13,10]⟩:ByteArray).size=tx.length+2:=by rw[ByteArray.size_append];rfl
          have hxd:((⟨tx.toArray⟩:ByteArray)++⟨#[13,10]⟩:ByteArray).data.toList=tx++[13,10]:=by rw[Ch.data_append]
          have hxl:tx.length+2<=4004:=by
           have:=U4.o;rw[this,List.length_append] at hll;simpa using hll
          have HXz:=H9 hxz;have HXd:=H9 hxd
          clear hxz hxd hll;go_wp2_with fail
          refine qg.o.mono ?_;rintro e w5 ⟨rfl,hb5⟩;have Lf:=H9 (HR.o.stay (Y3.o.trans (hb5.mono (by simp))));clear hb5 x0 x1 x2 qg;go_wp2_with (at_builtin;refine gG rfl (.tmp 51) (.tmp 53) 31 9 rfl 5 j0 underlying31 Hj.o M9.o Na.o Nb.o rfl Lf.o.buf O4.o _ _ rfl (xX underlying9 _ _) (by rw[HXz.o];omega) ?_;intro g7 Cc w7 Xt vH Xu;have TL:=H9 (Lf.o.grow Xt vH Xu);clear Xt vH Xu)
          go_roundw
          case rel =>
           have hlc:Rp.first sn++(ls.take i).flatMap Rp.jA++((⟨tx.toArray⟩:ByteArray)++⟨#[13,10]⟩:ByteArray).data.toList=Rp.first sn++(ls.take (i+1)).flatMap Rp.jA:=by
            rw[pQ.o,List.flatMap_append,HXd.o,List.append_assoc];congr 2;simp[U4.o]
           refine⟨i+1,_,g7,Cc,by omega,by go_num,rfl,?_,?_,by rw[<-hlc];exact TL.o⟩
           . rw[<-hlc,List.length_append,O4.o,HXd.o];simp
           . intro q hq;rw[pQ.o] at hq;rcases List.mem_append.1 hq with hq | hq
             . exact Ws.o q hq
             . simp at hq;subst hq;exact ZN.o
          case measure=>simp[intOf];omega
        . have tc:((cd:Int) != 0)=true:=by rw[bne_iff_ne];omega
          have HLb:=H9 (ZM.o hc0);have FR:=H9 hc0
          clear hc0 hll;go_wp2_with fail
          refine qg.o.mono ?_;rintro e w5 ⟨rfl,hb5⟩;have Lf:=H9 (HR.o.stay (Y3.o.trans (hb5.mono (by simp))));clear hb5 x0 x1 x2 qg;go_wp2;(try simp only[Exit.inBlock,Exit.then]);go_ret2;refine .bad cd FR.o rfl ?_ Lf.o.one.below;rw[HT.o,HLb.o,if_pos FR.o]
      . obtain rfl:i=l.length+1:=by omega
        have ZO:Hid (Rp.out sn l body=(Rp.first sn++(ls.take (l.length+1)).flatMap Rp.jA++[13,10]++body,0)):=by
         have htl:ls.take (l.length+1)=ls:=by rw[<-Xq.o];exact List.take_length
         have hz:=Ws.o;rw[htl] at hz;unfold Hid;rw[HT.o,Rp.Ap ls hz,if_neg (by simp),htl]
        clear HT;go_wp2_with (first
         | (at_builtin;refine gG rfl (.tmp 56) (.const (.string ⟨#[13,10]⟩)) 31 9 rfl 5 j0 underlying31 Hj.o M9.o Na.o Nb.o rfl HR.o.buf O4.o _ _ rfl (xX underlying9 _ _) (by show n+2<=_;omega) ?_;intro g7 Cc w7 Xt vH Xu;have Nc:=HR.o.grow Xt vH Xu;have TL:=H9 Nc;have ZP:=H9 (yJ.o.stay Nc.one.below);have z2:=(HX.o w7 Nc.one).2.2;clear Xt vH Xu Nc)
         | (at_builtin;refine gG rfl (.tmp 58) (.tmp 60) 31 31 rfl 5 j0 underlying31 Hj.o M9.o Na.o Nb.o rfl TL.o.buf (by rw[List.length_append,O4.o];rfl) _ _ rfl (GX underlying31 ZP.o rfl) (by omega) ?_;intro g8 ZQ w8 hU8 hT8 hg8;have HR8:=H9 (TL.o.grow hU8 hT8 hg8);clear hU8 hT8 hg8))
        go_ret2;have hU:=HR8.o.buf;refine .ok g8 ZQ _ rfl ?_ (by rw[ZO.o]) (by rw[ZO.o];exact⟨by have:=hU.AQ;omega,hU.lt,hU.le,hU.max,hU.holds,hU.there⟩) HR8.o.one.below;rw[ZO.o];show _=(Rp.first sn++(ls.take (l.length+1)).flatMap Rp.jA++[13,10]++body).length;rw[List.length_append,List.length_append,O4.o];rfl
 . have HF:=H9 (Rp.Lb (body:=body) hft);have tc:(((Rp.fault st l:Nat):Int) != 0)=true:=by rw[bne_iff_ne];omega
   have ZR:=H9 hft;generalize Rp.fault st l=fc at *;clear hft;go_enter func107,ntmps107;go_wp2_with fail
   refine Wo.o.mono ?_;rintro e w1 ⟨rfl,hb1⟩;have vZ:=H9 (H0.o.stay hb1);clear hb1 H0 x0 x1 x2;go_wp2;go_ret2;exact .bad fc ZR.o rfl HF.o vZ.o.below
theorem jJ (st:Int)(w:World):Calls prog 109 #[.int .i64 st] w fun e w'=>e=.returned (.agg #[.int .i64 st,.slice none 0 0,.slice none 0 0])∧Below w.heap.size w w':=by
 go_enter func109,ntmps109;go_wp2;refine bodyPost_ret (v:=.agg #[.int .i64 st,.slice none 0 0,.slice none 0 0]) (by simp[results,results109,go_sem]) rfl ⟨rfl,?_⟩;exact(Below.refl _ _).alloc (Nat.le_refl _) _
theorem yM {W:World}{b:Nat}{x0 x1 x2:Value}(h:W.heap[b]? = some (.cells #[x0,x1,x2] 88 (0,0)))(y0 y1 y2:Value):
 (W.cell? ⟨b,0,none⟩=some x0∧W.cell? ⟨b,1,none⟩=some x1∧W.cell? ⟨b,2,none⟩=some x2∧W.frozen? ⟨b,0,none⟩=false∧W.frozen? ⟨b,1,none⟩=false∧W.frozen? ⟨b,2,none⟩=false) ∧
 Hid ((((W.setCell ⟨b,0,none⟩ y0).setCell ⟨b,1,none⟩ y1).setCell ⟨b,2,none⟩ y2).cell? ⟨b,0,none⟩=some y0∧(((W.setCell ⟨b,0,none⟩ y0).setCell ⟨b,1,none⟩ y1).setCell ⟨b,2,none⟩ y2).cell? ⟨b,1,none⟩=some y1∧(((W.setCell ⟨b,0,none⟩ y0).setCell ⟨b,1,none⟩ y1).setCell ⟨b,2,none⟩ y2).cell? ⟨b,2,none⟩=some y2∧Turns (fun k=>k=b) W (((W.setCell ⟨b,0,none⟩ y0).setCell ⟨b,1,none⟩ y1).setCell ⟨b,2,none⟩ y2)):=by
 have r2:=heap_setCell_same _ b 2 _ _ y2 (heap_setCell_same _ b 1 _ _ y1 (heap_setCell_same W b 0 _ _ y0 h));exact⟨⟨cell_of_row W _ 0 _ _ _ h,cell_of_row W _ 1 _ _ _ h,cell_of_row W _ 2 _ _ _ h,frozen_of_row W _ 0 _ _ h,frozen_of_row W _ 1 _ _ h,frozen_of_row W _ 2 _ _ h⟩,cell_of_row _ _ 0 _ _ _ r2,cell_of_row _ _ 1 _ _ _ r2,cell_of_row _ _ 2 _ _ _ r2,aM b [y0,y1,y2] 0 W⟩
theorem nC (k:Int)(w:World):Calls prog 26 #[.int .i64 k] w fun e w'=>e=.returned (.bool (decide (0<=k)&&decide (k<4)))∧w'=w:=by
 by_cases h:0<=k
 . have t:decide (k≥0)=true:=decide_eq_true h;rw[decide_eq_true h,Bool.true_and];go_enter func26,ntmps26;go_wp2;go_ret;exact⟨rfl,rfl⟩
 . have t:decide (k≥0)=false:=decide_eq_false h;rw[decide_eq_false h,Bool.false_and];go_enter func26,ntmps26;go_wp2;go_ret;exact⟨rfl,rfl⟩
theorem GZ (c:Nat)(w:World):Calls prog 67 #[.int .i64 (c:Int)] w fun e w'=>e=.returned (.agg #[.int .i64 ((Gt.lC c).1:Int),.slice none 0 0,.slice none 0 0])∧Below w.heap.size w w':=by
 have H1:=H9 (fun W=>jJ 413 W);have H2:=H9 (fun W=>jJ 400 W);by_cases h:c=4
 . subst h;go_enter func67,ntmps67;go_wp2_with fail
   refine(H1.o _).mono ?_;rintro e w1 ⟨rfl,hb⟩;obtain⟨⟨z0,z1,z2,y0,y1,y2⟩,HE⟩:=yM ((hb.block w.heap.size (by simp)).trans (heap_alloc_new w _)) (.int .i64 413) (.slice none 0 0) (.slice none 0 0);have HB:=H9 (then_ ((Below.refl _ w).alloc (Nat.le_refl _) _) hb);clear hb;go_wp2;generalize (((w1.setCell ⟨w.heap.size,0,none⟩ _).setCell ⟨w.heap.size,1,none⟩ _).setCell ⟨w.heap.size,2,none⟩ _)=wf at *;obtain⟨q0,q1,q2,q3⟩:=HE.o;refine bodyPost_ret (v:=.agg #[.int .i64 413,.slice none 0 0,.slice none 0 0]) (by simp[results,results67,go_sem,q0,q1,q2]) rfl ⟨rfl,HB.o.trans (q3.below (fun k e=>by omega) HB.o.size)⟩
 . have t:((c:Int)==4)=false:=beq_eq_false_iff_ne.2 (by omega);have hf:(Gt.lC c).1=400:=by unfold Gt.lC;simp[h]
   rw[hf];go_enter func67,ntmps67;go_wp2_with fail
   refine(H2.o _).mono ?_;rintro e w1 ⟨rfl,hb⟩;obtain⟨⟨z0,z1,z2,y0,y1,y2⟩,HE⟩:=yM ((hb.block w.heap.size (by simp)).trans (heap_alloc_new w _)) (.int .i64 400) (.slice none 0 0) (.slice none 0 0);have HB:=H9 (then_ ((Below.refl _ w).alloc (Nat.le_refl _) _) hb);clear hb;go_wp2;generalize (((w1.setCell ⟨w.heap.size,0,none⟩ _).setCell ⟨w.heap.size,1,none⟩ _).setCell ⟨w.heap.size,2,none⟩ _)=wf at *;obtain⟨q0,q1,q2,q3⟩:=HE.o;refine bodyPost_ret (v:=.agg #[.int .i64 400,.slice none 0 0,.slice none 0 0]) (by simp[results,results67,go_sem,q0,q1,q2]) rfl ⟨rfl,HB.o.trans (q3.below (fun k e=>by omega) HB.o.size)⟩
theorem dS.ZT {w:World}{g gs:Nat}{v:Nat->List Value}(h:dS w g gs v){k:Nat}(hk:k<4){a0 a1 a2 a3 a4 a5 a6:Value}(hv:v k=[a0,a1,a2,a3,a4,a5,a6]){o:Nat}(ho:1+k*7=o)(y1 y2 y3 y4 y5 y6:Value):
 dS ((((((w.setCell ⟨g,o+1,none⟩ y1).setCell ⟨g,o+2,none⟩ y2).setCell ⟨g,o+3,none⟩ y3).setCell ⟨g,o+4,none⟩ y4).setCell ⟨g,o+5,none⟩ y5).setCell ⟨g,o+6,none⟩ y6) g gs (upd v k [a0,y1,y2,y3,y4,y5,y6])∧Turns (fun i=>i=g) w ((((((w.setCell ⟨g,o+1,none⟩ y1).setCell ⟨g,o+2,none⟩ y2).setCell ⟨g,o+3,none⟩ y3).setCell ⟨g,o+4,none⟩ y4).setCell ⟨g,o+5,none⟩ y5).setCell ⟨g,o+6,none⟩ y6):=by
 subst ho;refine⟨?_,aM g [y1,y2,y3,y4,y5,y6] (1+k*7+1) w⟩;have:=(((((h.set hk (j:=1) (by decide) y1).set hk (j:=2) (by decide) y2).set hk (j:=3) (by decide) y3).set hk (j:=4) (by decide) y4).set hk (j:=5) (by decide) y5).set hk (j:=6) (by decide) y6;simp only[jT,aY,hv] at this;exact this
theorem uy {w:World}{g gs:Nat}{v:Nat->List Value}(h:dS w g gs v){k:Nat}(hk:k<4){a0:Value}{m t:ByteArray}{mi ln:Int}{fo bo:Option Addr}{nf ak nb aj:Nat}(hv:v k=[a0,.string m,.string t,.int .i64 mi,.slice fo nf ak,.int .i64 ln,.slice bo nb aj]):
 Calls prog 27 #[.pointer (some ⟨g,1+k*7,none⟩)] w fun e w'=>e=.returned (.agg #[.string m,.string t,.int .i64 mi,.slice fo nf ak,.int .i64 ln,.slice bo nb aj])∧dS w' g gs (upd v k [a0,.string ⟨#[]⟩,.string ⟨#[]⟩,.int .i64 0,.slice none 0 0,.int .i64 0,.slice none 0 0])∧Turns (fun i=>i=g) w w':=by
 have c1:=h.at_ hk (j:=1) (by decide) (u:=.string m) (by rw[hv];rfl);have c2:=h.at_ hk (j:=2) (by decide) (u:=.string t) (by rw[hv];rfl);have c3:=h.at_ hk (j:=3) (by decide) (u:=.int .i64 mi) (by rw[hv];rfl);have c4:=h.at_ hk (j:=4) (by decide) (u:=.slice fo nf ak) (by rw[hv];rfl);have c5:=h.at_ hk (j:=5) (by decide) (u:=.int .i64 ln) (by rw[hv];rfl);have c6:=h.at_ hk (j:=6) (by decide) (u:=.slice bo nb aj) (by rw[hv];rfl);have f1:=h.fz (1+k*7+1);have f2:=h.fz (1+k*7+2);have f3:=h.fz (1+k*7+3);have f4:=h.fz (1+k*7+4);have f5:=h.fz (1+k*7+5);have f6:=h.fz (1+k*7+6)
 have hlt:=h.lt;have HH:=H9 h;clear h;obtain⟨o,ho⟩:∃o,1+k*7=o:=⟨_,rfl⟩;rw[ho] at c1 c2 c3 c4 c5 c6 f1 f2 f3 f4 f5 f6 ⊢;have HO:=H9 ho;clear ho;go_enter func27,ntmps27;go_wp2;have HS:=HH.o.ZT hk hv HO.o (.string ⟨#[]⟩) (.string ⟨#[]⟩) (.int .i64 0) (.slice none 0 0) (.int .i64 0) (.slice none 0 0);change bodyPost _ _ _ _ _ (World.alloc (World.alloc (((((((w.setCell ⟨g,o+1,none⟩ (.string ⟨#[]⟩)).setCell ⟨g,o+2,none⟩ (.string ⟨#[]⟩)).setCell ⟨g,o+3,none⟩ (.int .i64 0)).setCell ⟨g,o+4,none⟩ (.slice none 0 0)).setCell ⟨g,o+5,none⟩ (.int .i64 0)).setCell ⟨g,o+6,none⟩ (.slice none 0 0))) _) _);have hz:((((((w.setCell ⟨g,o+1,none⟩ (.string ⟨#[]⟩)).setCell ⟨g,o+2,none⟩ (.string ⟨#[]⟩)).setCell ⟨g,o+3,none⟩ (.int .i64 0)).setCell ⟨g,o+4,none⟩ (.slice none 0 0)).setCell ⟨g,o+5,none⟩ (.int .i64 0)).setCell ⟨g,o+6,none⟩ (.slice none 0 0)).heap.size=w.heap.size:=by simp
 generalize ((((((w.setCell ⟨g,o+1,none⟩ (.string ⟨#[]⟩)).setCell ⟨g,o+2,none⟩ (.string ⟨#[]⟩)).setCell ⟨g,o+3,none⟩ (.int .i64 0)).setCell ⟨g,o+4,none⟩ (.slice none 0 0)).setCell ⟨g,o+5,none⟩ (.int .i64 0)).setCell ⟨g,o+6,none⟩ (.slice none 0 0))=wf at *;obtain⟨h1,h2⟩:=HS;have hb:Below wf.heap.size wf ((wf.alloc (.cells #[.string m,.string t,.int .i64 mi,.slice fo nf ak,.int .i64 ln,.slice bo nb aj] 75)).alloc (.cells #[.string m,.string t,.int .i64 mi,.slice fo nf ak,.int .i64 ln,.slice bo nb aj] 75)):=then_ ((Below.refl _ _).alloc (Nat.le_refl _) _) ((Below.refl _ _).alloc (Nat.le_refl _) _);refine bodyPost_ret (v:=.agg #[.string m,.string t,.int .i64 mi,.slice fo nf ak,.int .i64 ln,.slice bo nb aj]) (by rw[<-hz];simp[results,results27,go_sem]) rfl ⟨rfl,⟨(hb.block g h1.lt).trans h1.row,h1.seven⟩,h2.trans (Turns.of_below (S:=fun _=>False) hb) (fun _ e _=>e.elim)⟩
theorem vI (w:World):Calls prog 28 #[] w fun e w'=>∃gp,e=.returned (.agg #[.pointer (some ⟨gp,0,none⟩),.string ⟨#[]⟩,.string ⟨#[]⟩,.int .i64 0,.slice none 0 0,.int .i64 0,.slice none 0 0])∧bZ w' (fun k=>w.heap.size<=k) gp Rq.start∧Below w.heap.size w w':=by
 have H1:=H9 (fun W=>Gq W);go_enter func28,ntmps28;go_wp2_with fail
 refine(H1.o _).mono ?_;rintro e w1 ⟨gp,rfl,hR,hb⟩;have hr:=(hb.block w.heap.size (by simp)).trans (heap_alloc_new w _);have c0:=cell_of_row w1 _ 0 _ _ _ hr;have c1:=cell_of_row w1 _ 1 _ _ _ hr;have c2:=cell_of_row w1 _ 2 _ _ _ hr;have c3:=cell_of_row w1 _ 3 _ _ _ hr;have c4:=cell_of_row w1 _ 4 _ _ _ hr;have c5:=cell_of_row w1 _ 5 _ _ _ hr;have c6:=cell_of_row w1 _ 6 _ _ _ hr
 have f0:=fun j=>frozen_of_row w1 _ j _ _ hr;have HB:=H9 (then_ ((Below.refl _ w).alloc (Nat.le_refl _) _) hb);have HR:Hid (bZ w1 (fun k=>w.heap.size+1<=k) gp Rq.start):=hR.mono (fun k _ e=>by rw[World.size_alloc] at e;exact e);have zP:=H9 hr;clear hR hb hr;go_wp2;have hT:Turns (fun k=>k=w.heap.size) w1 (((((((w1.setCell ⟨w.heap.size,0,none⟩ (.pointer (some ⟨gp,0,none⟩))).setCell ⟨w.heap.size,1,none⟩ (.string ⟨#[]⟩)).setCell ⟨w.heap.size,2,none⟩ (.string ⟨#[]⟩)).setCell ⟨w.heap.size,3,none⟩ (.int .i64 0)).setCell ⟨w.heap.size,4,none⟩ (.slice none 0 0)).setCell ⟨w.heap.size,5,none⟩ (.int .i64 0)).setCell ⟨w.heap.size,6,none⟩ (.slice none 0 0)):=aM w.heap.size [.pointer (some ⟨gp,0,none⟩),.string ⟨#[]⟩,.string ⟨#[]⟩,.int .i64 0,.slice none 0 0,.int .i64 0,.slice none 0 0] 0 w1;have hr:=heap_setCell_same _ _ 6 _ _ (.slice none 0 0) (heap_setCell_same _ _ 5 _ _ (.int .i64 0) (heap_setCell_same _ _ 4 _ _ (.slice none 0 0) (heap_setCell_same _ _ 3 _ _ (.int .i64 0) (heap_setCell_same _ _ 2 _ _ (.string ⟨#[]⟩) (heap_setCell_same _ _ 1 _ _ (.string ⟨#[]⟩) (heap_setCell_same w1 w.heap.size 0 _ _ (.pointer (some ⟨gp,0,none⟩)) zP.o))))));generalize (((((((w1.setCell ⟨w.heap.size,0,none⟩ (.pointer (some ⟨gp,0,none⟩))).setCell ⟨w.heap.size,1,none⟩ (.string ⟨#[]⟩)).setCell ⟨w.heap.size,2,none⟩ (.string ⟨#[]⟩)).setCell ⟨w.heap.size,3,none⟩ (.int .i64 0)).setCell ⟨w.heap.size,4,none⟩ (.slice none 0 0)).setCell ⟨w.heap.size,5,none⟩ (.int .i64 0)).setCell ⟨w.heap.size,6,none⟩ (.slice none 0 0))=wf at *;have d0:=cell_of_row wf _ 0 _ _ _ hr;have d1:=cell_of_row wf _ 1 _ _ _ hr;have d2:=cell_of_row wf _ 2 _ _ _ hr;have d3:=cell_of_row wf _ 3 _ _ _ hr;have d4:=cell_of_row wf _ 4 _ _ _ hr;have d5:=cell_of_row wf _ 5 _ _ _ hr;have d6:=cell_of_row wf _ 6 _ _ _ hr
 simp at d0 d1 d2 d3 d4 d5 d6;refine bodyPost_ret (v:=.agg #[.pointer (some ⟨gp,0,none⟩),.string ⟨#[]⟩,.string ⟨#[]⟩,.int .i64 0,.slice none 0 0,.int .i64 0,.slice none 0 0]) (by simp[results,results28,go_sem,d0,d1,d2,d3,d4,d5,d6]) rfl ⟨gp,rfl,?_,HB.o.trans (hT.below (fun k e=>by omega) HB.o.size)⟩;exact(HR.o.turns hT (fun k e e2=>by omega)).mono (fun k _ e=>by omega)
theorem EF (m t:ByteArray)(mi ln:Int)(fo bo:Option Addr)(nf ak nb aj:Nat)(w:World)(ht:t.size<=100000):Calls prog 29 #[.agg #[.string m,.string t,.int .i64 mi,.slice fo nf ak,.int .i64 ln,.slice bo nb aj]] w fun e w'=>e=.returned (.bool (decide (m=Gt.Gj)&&Gt.BL t))∧Below w.heap.size w w':=by
 have H1:=H9 (fun W=>vD t W ht);have hb:=(Below.refl _ w).alloc (Nat.le_refl _) (.cells #[.string m,.string t,.int .i64 mi,.slice fo nf ak,.int .i64 ln,.slice bo nb aj] 75);have HB:=H9 hb;clear hb;by_cases h:m=Gt.Gj
 . have tb:(m.toList==[80,65,84,67,72])=true:=by rw[beq_iff_eq,Lib.toList_data,h];rfl
   rw[decide_eq_true h,Bool.true_and];clear h;go_enter func29,ntmps29;go_wp2_with fail
   refine(H1.o _).mono ?_;rintro e w1 ⟨rfl,hw⟩;subst hw;go_wp2;go_ret;exact⟨rfl,HB.o⟩
 . have tb:(m.toList==[80,65,84,67,72])=false:=by
    rw[beq_eq_false_iff_ne,Lib.toList_data];intro e;exact h (by rw[ByteArray.ext_iff,<-Array.toList_inj,e];rfl)
   rw[decide_eq_false h,Bool.false_and];clear h;go_enter func29,ntmps29;go_wp2;go_ret;exact⟨rfl,HB.o⟩
structure Xv (w:World)(l:List UInt8)(e:Ending)(w':World):Prop where
 ret:∃(ao:Option Addr) (cap n:Nat),e=.returned (.slice ao n cap)∧n=l.length∧aU w' ao cap l
 nR:Below w.heap.size w w'
theorem Ba (w:World)(r:Gt.qY)(fo bo:Option Addr)(nf ak nb aj:Nat)(hs:Gt.Small r)(hn:r.2.1.length=nf)(hF:cu w fo ak nf (aB r.2.1))(hm:r.2.2.length=nb)(hB:aU w bo aj r.2.2)(hP:gU w):
 Calls prog 65 #[.agg #[.int .i64 (r.1:Int),.slice fo nf ak,.slice bo nb aj]] w fun e w'=>Xv w (Gt.textOf r) e w':=by
 subst hn;have hb:=(Below.refl _ w).alloc (Nat.le_refl _) (.cells #[.int .i64 (r.1:Int),.slice fo r.2.1.length ak,.slice bo nb aj] 88);have h1:=hs.few;have h2:=hs.body
 have HW:=H9 (GY _ (r.1:Int) r.2.1 fo bo ak aj nb r.2.2 (hF.stay hb) (by omega) hs.fields hm (hB.stay hb) (by omega) (hP.stay hb));have HB:=H9 hb;clear hb hF hB hP hs hm h1 h2;have HT:Hid (Gt.textOf r=(Rp.out (r.1:Int) r.2.1 r.2.2).1):=rfl;rw[HT.o];clear HT;generalize Rp.out (r.1:Int) r.2.1 r.2.2=q at *;go_enter func65,ntmps65;go_wp2_with fail
 refine HW.o.mono ?_;rintro e w1 hR;cases hR with
 | bad c hc he ht hb =>
   subst he;have zQ:=H9 (then_ HB.o hb);clear hb;go_wp2;go_ret;refine⟨⟨none,0,0,rfl,by rw[ht];rfl,by rw[ht];exact aU.nil _⟩,zQ.o⟩
 | ok g cap n he hn ht hO hb =>
   subst he;subst hn;have zQ:=H9 (then_ HB.o hb);have HO:=H9 hO;clear hb hO;go_wp2;go_ret;exact⟨⟨_,cap,_,rfl,rfl,HO.o.qc⟩,zQ.o⟩
theorem Pj (name:ByteArray)(l:List (ByteArray×ByteArray)):Fd.one (Fd.vals name l)=Tu.one (Tu.vals name l):=by
 show Fd.one (Tu.vals name l)=_;match Tu.vals name l with
 | []=>rfl
 | [_]=>rfl
 | _::_::_=>rfl
theorem yP {w:World}{l:List (ByteArray×ByteArray)}{fo:Option Addr}{ak nf:Nat}(h:jI w l fo ak nf):
 Calls prog 148 #[.slice fo nf ak] w fun e w'=>e=.returned (.tuple #[.string ((Gt.bound l).elim ⟨#[]⟩ Gt.txt),.bool (Gt.bound l).isSome])∧Below w.heap.size w w':=by
 have HO:=H9 (mq l Tu.UN fo ak nf w h.is h.len (by have:=h.few;omega) h.small (by decide));have hz:=h.val Tu.FM;rw[Pj,Tu.yC] at HO;unfold Tu.UN at HO;obtain⟨B,hB⟩:∃B,B=Gt.bound l:=⟨_,rfl⟩;rw[<-hB];unfold Gt.bound at hB;generalize Tu.one (Tu.vals Tu.FM l)=r at *;obtain⟨v,c⟩:=r;simp only[nL] at hz HO hB;by_cases hc:c=0
 . subst hc;rw[if_neg (by simp)] at hB;have yJ:=H9 hB;clear hB;have HP:Hid (∀W,Calls prog 168 #[.string ⟨v.toArray⟩] W fun e w'=>nA W (Pm.dI v) e w'):=fun W=>by
    have:=qM ⟨v.toArray⟩ W (by show v.toArray.size<=_;rw[List.size_toArray];omega);rw[show(⟨v.toArray⟩:ByteArray).data.toList=v from by simp] at this;exact this
   clear h;go_enter func148,ntmps148;go_wp2_with fail
   refine HO.o.mono ?_;rintro e w1 ⟨rfl,hb1⟩;have HB1:=H9 hb1;clear hb1;go_wp2_with fail
   refine(HP.o _).mono ?_;rintro e w2 ⟨word,ps,ao,cap,code,rfl,hM,hO2,hb2⟩;have R6:Below w2.heap.size w2 (w2.alloc (.cells #[.string word,.slice ao ps.length cap] 172)):=(Below.refl _ _).alloc (Nat.le_refl _) _;have HB2:=H9 (then_ (then_ HB1.o hb2) R6);cases hm:Pm.dI v with
   | inl c2 =>
     rw[hm] at hM yJ;obtain⟨rfl,rfl,rfl⟩:=hM;obtain rfl:B=none:=yJ.o;clear hb2 R6 hO2 hm yJ;by_cases h0:code=0
     . subst h0;go_wp2;go_ret2;exact⟨rfl,HB2.o⟩
     . have t0:((code:Int) != 0)=true:=by rw[bne_iff_ne];omega
       go_wp2;go_ret2;exact⟨rfl,HB2.o⟩
   | inr x =>
     obtain⟨wd,qs⟩:=x;rw[hm] at hM yJ;obtain⟨rfl,hwd,hqs⟩:=hM;simp only at hwd hqs;have iw:=Fm.Bd hm;have hlen:=Pm.tX hm;subst hqs;have hn8:ps.length<=8:=by rw[<-lK];exact iw
     have Va:∀p∈ps,p.2.size<=1000000:=fun p hp=>by
      have h2:p.2.data.toList.length<=v.length:=(hlen.2 (p.1.data.toList,p.2.data.toList) (List.mem_map.2 ⟨p,hp,rfl⟩)).2;rw[Ch.bC] at h2;omega
     obtain⟨n2,hn2⟩:∃n2,ps.length=n2:=⟨_,rfl⟩;rw[hn2] at hO2 R6 HB2;have HG:=H9 (sI word ps ⟨#[98,111,117,110,100,97,114,121]⟩ ao cap n2 _ (hO2.lQ.stay R6) hn2 (by omega) Va);have HGl:=H9 (sJ ⟨#[98,111,117,110,100,97,114,121]⟩ ps);rw[hn2];clear hb2 R6 hO2 hm iw hlen hn8 Va hn2;by_cases hw:wd=Gt.Jq
     . have tw:(word.toList==[109,117,108,116,105,112,97,114,116,47,102,111,114,109,45,100,97,116,97])=true:=by rw[beq_iff_eq,Lib.toList_data,hwd,hw];rfl
       have hBq:B=(eG ⟨#[98,111,117,110,100,97,114,121]⟩ ps).map (fun x=>x.data.toList):=by
        rw[HGl.o,yJ.o];show(if wd≠Gt.Jq then none else Fm.get Gt.Gi (fT ps))=_;rw[if_neg (by simp[hw])];rfl
       have HE:=H9 hBq;clear HGl yJ hBq;generalize eG ⟨#[98,111,117,110,100,97,114,121]⟩ ps=q at *;go_wp2_with fail
       refine HG.o.mono ?_;rintro e w3 ⟨rfl,hb3⟩;have HB3:=H9 (then_ HB2.o hb3);clear hb3;go_wp2;go_ret2;refine⟨?_,HB3.o⟩;rw[HE.o];cases q with
       | none=>rfl
       | some y=>simp[Gt.txt]
     . have tw:(word.toList==[109,117,108,116,105,112,97,114,116,47,102,111,114,109,45,100,97,116,97])=false:=by
        rw[beq_eq_false_iff_ne,Lib.toList_data,hwd];exact hw
       obtain rfl:B=none:=by
        rw[yJ.o];show(if wd≠Gt.Jq then none else Fm.get Gt.Gi (fT ps))=_;rw[if_pos hw]
       clear yJ;go_wp2;go_ret2;exact⟨rfl,HB2.o⟩
 . have t0:((c:Int) != 0)=true:=by rw[bne_iff_ne];omega
   rw[if_pos hc] at hB;subst hB;clear h;go_enter func148,ntmps148;go_wp2_with fail
   refine HO.o.mono ?_;rintro e w1 ⟨rfl,hb1⟩;have HB1:=H9 hb1;clear hb1;go_wp2;go_ret2;exact⟨rfl,HB1.o⟩
theorem Lv (ps:List Fm.Pt)(k:Nat)(hk:k<ps.length):Gt.room (ps.take (k+1))=Gt.room (ps.take k)+(ps[k].bytes.length+200):=by
 unfold Gt.room;rw[List.take_succ_eq_append_getElem hk,List.map_append,List.sum_append];simp
theorem room_le (ps:List Fm.Pt)(k:Nat):Gt.room (ps.take k)<=Gt.room ps:=by
 unfold Gt.room;conv=>rhs;rw[<-List.take_append_drop k ps,List.map_append,List.sum_append]
 omega
theorem Hl {w:World}{ao:Option Addr}{cap n:Nat}{ps:List Fm.Pt}(h:yO w ao cap ps)(hn:ps.length=n)(hr:Gt.room ps<=1000000000):
 Calls prog 150 #[.slice ao n cap] w fun e w'=>e=.returned (.int .i64 (Gt.room ps:Int))∧Below w.heap.size w w':=by
 subst hn;have HI:=H9 h;have hcap:ps.length<=cap:=by obtain⟨_,_,hv,_⟩:=h;exact hv.1
 have hN:ps.length<=10000000:=by
  have h1:∀l:List Fm.Pt,l.length*200<=Gt.room l:=fun l=>by
   induction l with
   | nil=>simp[Gt.room]
   | cons p t ih=>unfold Gt.room at *;simp at *;omega
  have:=h1 ps;omega
 clear h;go_enter func150,ntmps150;go_wp2;go_loopw [3,8] (fun vn vi wr=>∃i:Nat,i<=ps.length∧vi=.int .i64 i∧vn=.int .i64 (Gt.room (ps.take i):Int)∧Below w.heap.size w wr) (fun _ vi _=>ps.length-(intOf vi).toNat)
 case atStart=>exact⟨0,Nat.zero_le _,rfl,rfl,Below.refl _ _⟩
 case round =>
  obtain⟨i,hi,rfl,rfl,hb⟩:=hrel;have HB:=H9 hb;by_cases hlt:i<ps.length
  . have hlt':(i:Int)<ps.length:=by omega
    obtain⟨b,o,s,rfl,c0,c1,c2,c3,hIB⟩:=(HI.o.stay hb).at_ i hlt;have HR:=H9 (Lv ps i hlt);have hle:=room_le ps i;have hle2:=room_le ps (i+1);rw[HR.o] at hle2;obtain⟨nb,hnb⟩:∃nb,ps[i].bytes.length=nb:=⟨_,rfl⟩;rw[hnb] at c3 HR hle2;have jr:=H9 (then_ hb ((Below.refl _ wr).alloc (Nat.le_refl _) (.cells #[.string ps[i].name,.string ps[i].file,.string ps[i].type,.slice s.bo nb s.aj] 70)));clear hb hIB hnb;generalize ps[i]=p at *;go_wp2;go_roundw
    case rel=>exact⟨i+1,by omega,by go_num,by rw[HR.o];go_num,jr.o⟩
    case measure=>simp[intOf];omega
  . obtain rfl:i=ps.length:=by omega
    clear hb;go_wp2;go_ret;refine⟨?_,HB.o⟩;rw[List.take_length];rfl
inductive Hw
 | row
 | dn
 | ids
 | list
 | box
 | out
def EY (l:List Int):List Value:=l.map fun i=>Value.int .i64 i
def PE (io:Option Addr)(aS:Nat)(ids:List Int):Ob:=fun w S=>aC w 0 3 1 io aS ids.length (EY ids)∧∀a,io=some a->S a.block
theorem PE.law (io:Option Addr)(aS:Nat)(ids:List Int):fI (PE io aS ids):=⟨fun h ht hs=>⟨h.1.turns ht (fun a e=>hs _ (h.2 a e)),h.2⟩,fun h hs=>⟨h.1,fun a e=>hs _ (h.1.block a e).2 (h.2 a e)⟩⟩
def qR (g:Nat)(o:Obj):Ob:=fun w S=>w.heap[g]? = some o∧S g
theorem qR.law (g:Nat)(o:Obj):fI (qR g o):=⟨fun h ht hs=>⟨ht.row h.1 (hs g h.2),h.2⟩,fun h hs=>⟨h.1,hs g (Array.getElem?_eq_some_iff.1 h.1).1 h.2⟩⟩
def QW (gs:Nat)(io:Option Addr)(ni aS:Nat)(lo:Option Addr)(nl aR:Nat):Obj:=.cells #[.pointer (some ⟨gs,0,none⟩),.slice io ni aS,.slice lo nl aR] 214 (0,0)
def yX (L gs:Nat)(s:Sr.Sh)(o:Obj)(io:Option Addr)(aS:Nat)(ids:List Int)(lo:Option Addr)(aR:Nat)(told:List UInt8)(b u:Ob):Hw->Ob
 | .row=>qR L o
 | .dn=>fun w S=>aN w S gs s
 | .ids=>PE io aS ids
 | .list=>nS lo aR told
 | .box=>b
 | .out=>u
theorem lN {L gs:Nat}{s:Sr.Sh}{o:Obj}{io:Option Addr}{aS:Nat}{ids:List Int}{lo:Option Addr}{aR:Nat}{told:List UInt8}{b u:Ob}(hb:fI b)(hu:fI u):∀d,fI (yX L gs s o io aS ids lo aR told b u d)
 | .row=>qR.law _ _
 | .dn=>⟨fun h ht hs=>aN.turns h ht hs,fun h hs=>aN.mono h hs⟩
 | .ids=>PE.law _ _ _
 | .list=>nS.law _ _ _
 | .box=>hb
 | .out=>hu
def fU (w:World)(S:Nat->Prop)(L gs:Nat)(s:Sr.Sh)(ids:List Int)(told:List UInt8):Prop :=
 ∃(κ:Nat->Hw) (io:Option Addr) (aS:Nat) (lo:Option Addr) (aR:Nat),Held (yX L gs s (QW gs io ids.length aS lo told.length aR) io aS ids lo aR told Ej Ej) κ w∧∀k,κ k≠.out->S k
section
variable {w w' w0:World} {S S' D:Nat->Prop} {L gs:Nat} {s:Sr.Sh} {ids:List Int} {told:List UInt8}
theorem fU.turns (h:fU w S L gs s ids told)(ht:Turns S' w w')(hs:∀k,S k->¬S' k):fU w' S L gs s ids told:=by
 obtain⟨κ,io,aS,lo,aR,hH,hS⟩:=h;refine⟨κ,io,aS,lo,aR,fun d=>?_,hS⟩;by_cases hd:d=.out
 . subst hd;exact trivial
 . exact(lN fI.gV fI.gV d).turns (hH d) ht (fun k e=>hs k (hS k (by rw[e];exact hd)))
theorem fU.stay (h:fU w S L gs s ids told)(hb:Below w.heap.size w w'):fU w' S L gs s ids told:=h.turns (Turns.of_below (S:=fun _=>False) hb) (fun _ _ e=>e)
theorem oO {κ:Nat->Hw}{c:Hw}(hS:∀k,κ k≠.out->av S w k){n:Nat}(hn:w.heap.size<=n):∀k,bE κ n c k≠.out->av S w k:=fun k hk=>by
 rcases Nat.lt_or_ge k n with hl | hl
 . rw[bD hl] at hk;exact hS k hk
 . exact Or.inr (by omega)
section
variable {κ:Nat->Hw} {o:Obj} {io:Option Addr} {aS:Nat} {lo:Option Addr} {aR:Nat} {b u:Ob}
theorem Ct (hb:fI b)(hu:fI u)(h:Held (yX L gs s o io aS ids lo aR told b u) κ w){s':Sr.Sh}(hA:aN w' (av (fun k=>κ k=.dn) w) gs s')(hT:Turns (fun k=>κ k=.dn) w w'):Held (yX L gs s' o io aS ids lo aR told b u) (bE κ w.heap.size .dn) w' :=
 h.act (lN hb hu) hT (fun _ e=>e) (X':=yX L gs s' o io aS ids lo aR told b u) ⟨fun h ht hs=>aN.turns h ht hs,fun h hs=>aN.mono h hs⟩ hA (fun _ e=>e) (fun d hd=>by cases d <;> first | rfl | exact absurd rfl hd)
theorem PG (hb:fI b)(hu:fI u)(h:Held (yX L gs s o io aS ids lo aR told b u) κ w){o':Obj}(hr:w'.heap[L]? = some o')(hT:Turns (fun k=>k=L) w w'):Held (yX L gs s o' io aS ids lo aR told b u) (bE κ w.heap.size .row) w' :=
 h.act (lN hb hu) hT (fun k e=>by rw[e];exact(h .row).2) (X':=yX L gs s o' io aS ids lo aR told b u) (qR.law _ _) (N:=fun k=>k=L) ⟨hr,rfl⟩ (fun k e=>Or.inl (by rw[e];exact(h .row).2)) (fun d hd=>by cases d <;> first | rfl | exact absurd rfl hd)
theorem Vj (hb:fI b)(hu:fI u)(h:Held (yX L gs s o io aS ids lo aR told b u) κ w){LV:Option Addr}{oP:Nat}{EZ:List Int}(hO:aC w' 0 3 1 LV oP EZ.length (EY EZ))(hG:w.grownBy w' (au io))(hat:∀j,au LV=some j->au io=some j∨w.heap.size<=j):Held (yX L gs s o LV oP EZ lo aR told b u) (bE κ w.heap.size .ids) w':=by
 have hin:∀k,au io=some k->κ k=.ids:=fun k e=>by
  cases io with
  | none=>cases e
  | some a=>injection e with e;rw[<-e];exact(h .ids).2 a rfl
 refine h.act (lN hb hu) (Turns.bI (S:=fun k=>au io=some k) hG (fun k e=>e)) hin (X':=yX L gs s o LV oP EZ lo aR told b u) (PE.law _ _ _) (N:=fun k=>au io=some k∨w.heap.size<=k) ⟨hO,fun a e=>hat a.block (by rw[e];rfl)⟩ (fun k e=>?_) (fun d hd=>by cases d <;> first | rfl | exact absurd rfl hd);rcases e with e | e
 . exact Or.inl (hin k e)
 . exact Or.inr e
theorem Sc (hb:fI b)(hu:fI u)(h:Held (yX L gs s o io aS ids lo aR told b u) κ w){lo':Option Addr}{nO:Nat}{told':List UInt8}(hO:nS lo' nO told' w' (av (fun k=>κ k=.list) w))(hT:Turns (fun k=>κ k=.list) w w'):Held (yX L gs s o io aS ids lo' nO told' b u) (bE κ w.heap.size .list) w' :=
 h.act (lN hb hu) hT (fun _ e=>e) (X':=yX L gs s o io aS ids lo' nO told' b u) (nS.law _ _ _) hO (fun _ e=>e) (fun d hd=>by cases d <;> first | rfl | exact absurd rfl hd)
theorem Vk (hb:fI b)(hu:fI u)(h:Held (yX L gs s o io aS ids lo aR told b u) κ w)(z:Obj):Held (yX L gs s o io aS ids lo aR told (qR w.heap.size z) u) (bE κ w.heap.size .box) (w.alloc z) :=
 h.act (lN hb hu) (Turns.of_below (S:=fun _=>False) ((Below.refl _ w).alloc (Nat.le_refl _) z)) (fun _ e=>e.elim) (X':=yX L gs s o io aS ids lo aR told (qR w.heap.size z) u) (qR.law _ _) (N:=fun k=>w.heap.size<=k) ⟨heap_alloc_new w z,Nat.le_refl _⟩ (fun k e=>Or.inr e) (fun d hd=>by cases d <;> first | rfl | exact absurd rfl hd)
theorem Sd (h:Held (yX L gs s o io aS ids lo aR told b u) κ w):Held (yX L gs s o io aS ids lo aR told Ej Ej) κ w
 | .row=>h .row
 | .dn=>h .dn
 | .ids=>h .ids
 | .list=>h .list
 | .box=>trivial
 | .out=>trivial
end
end
def PI (bo:Option Addr)(aj:Nat)(l:List UInt8):Ob:=fun w S=>eX w S bo aj l
theorem PI.law (bo:Option Addr)(aj:Nat)(l:List UInt8):fI (PI bo aj l):=⟨fun h ht hs=>eX.turns h ht hs,fun h hs=>eX.mono h hs⟩
structure fM (w:World)(S:Nat->Prop)(L gs n:Nat)(z:Obj)(bo:Option Addr)(aj:Nat)(l:List UInt8)(s:Sr.Sh)(io:Option Addr)(aS:Nat)(ids:List Int)(lo:Option Addr)(aR:Nat)(told:List UInt8)(W:World):Prop where
 held:∃κ,Held (yX L gs s (QW gs io ids.length aS lo told.length aR) io aS ids lo aR told (qR n z) (PI bo aj l)) κ W∧∀k,κ k≠.out->av S w k
 turns:Turns S w W
section
variable {w W W':World} {S D:Nat->Prop} {L gs n:Nat} {z:Obj} {bo:Option Addr} {aj:Nat} {l:List UInt8} {s:Sr.Sh} {io:Option Addr} {aS:Nat} {ids:List Int} {lo:Option Addr} {aR:Nat} {told:List UInt8}
theorem fM.start {κ:Nat->Hw}(h:Held (yX L gs s (QW gs io ids.length aS lo told.length aR) io aS ids lo aR told Ej Ej) κ w)(hS:∀k,κ k≠.out->S k)(hB:eX w D bo aj l)(hD:∀k,D k->¬S k)(z:Obj):fM w S L gs w.heap.size z bo aj l s io aS ids lo aR told (w.alloc z):=by
 have h1:Held (yX L gs s (QW gs io ids.length aS lo told.length aR) io aS ids lo aR told Ej (PI bo aj l)) κ w
  | .row=>h .row
  | .dn=>h .dn
  | .ids=>h .ids
  | .list=>h .list
  | .box=>trivial
  | .out=>eX.mono hB (fun k _ e=>Classical.byContradiction (fun e2=>hD k e (hS k e2)))
 exact⟨⟨_,Vk fI.gV (PI.law _ _ _) h1 z,oO (fun k e=>Or.inl (hS k e)) (Nat.le_refl _)⟩,Turns.of_below ((Below.refl _ w).alloc (Nat.le_refl _) z)⟩
theorem fM.stay (h:fM w S L gs n z bo aj l s io aS ids lo aR told W)(hb:Below W.heap.size W W'):fM w S L gs n z bo aj l s io aS ids lo aR told W':=by
 obtain⟨⟨κ,hH,hS⟩,hT⟩:=h;exact⟨⟨κ,hH.stay (lN (qR.law _ _) (PI.law _ _ _)) hb,hS⟩,hT.trans (Turns.of_below (S:=fun _=>False) hb) (fun _ e _=>e.elim)⟩
theorem fM.row (h:fM w S L gs n z bo aj l s io aS ids lo aR told W):W.heap[L]? = some (QW gs io ids.length aS lo told.length aR):=by
 obtain⟨⟨κ,hH,hS⟩,hT⟩:=h;exact(hH .row).1
theorem fM.box (h:fM w S L gs n z bo aj l s io aS ids lo aR told W):W.heap[n]? = some z:=by
 obtain⟨⟨κ,hH,hS⟩,hT⟩:=h;exact(hH .box).1
theorem fM.bytes (h:fM w S L gs n z bo aj l s io aS ids lo aR told W):aU W bo aj l:=by
 obtain⟨⟨κ,hH,hS⟩,hT⟩:=h;exact eX.is (hH .out)
theorem fM.ints (h:fM w S L gs n z bo aj l s io aS ids lo aR told W):aC W 0 3 1 io aS ids.length (EY ids):=by
 obtain⟨⟨κ,hH,hS⟩,hT⟩:=h;exact(hH .ids).1
theorem fM.done (h:fM w S L gs n z bo aj l s io aS ids lo aR told W):fU W (av S w) L gs s ids told∧Turns S w W:=by
 obtain⟨⟨κ,hH,hS⟩,hT⟩:=h;exact⟨⟨κ,io,aS,lo,aR,Sd hH,hS⟩,hT⟩
theorem fM.did (h:fM w S L gs n z bo aj l s io aS ids lo aR told W):∃Sh:Nat->Prop,aN W Sh gs s∧(∀{s':Sr.Sh} {w':World},aN w' (av Sh W) gs s'->Turns Sh W w'->fM w S L gs n z bo aj l s' io aS ids lo aR told w'):=by
 obtain⟨⟨κ,hH,hS⟩,hT⟩:=h;refine⟨fun k=>κ k=.dn,hH .dn,fun hA dx=>⟨⟨_,Ct (qR.law _ _) (PI.law _ _ _) hH hA dx,oO hS hT.size⟩,hT.trans dx (fun k e hk=>?_)⟩⟩;rcases hS k (by rw[e];intro h;cases h) with h | h
 . exact h
 . omega
theorem fM.create (h:fM w S L gs n z bo aj l s io aS ids lo aR told W)(ok:Sr.Ok s)(sz:Int)(m:ByteArray)(hm:m.size<=1000000):
 Calls prog 119 #[.pointer (some ⟨gs,0,none⟩),.int .i64 sz,.string m] W fun e w'=>e=.returned (.tuple #[.int .i64 (Sr.wZ s (Sr.create s sz m).2),.int .i64 ((Sr.create s sz m).2:Int)])∧fM w S L gs n z bo aj l (Sr.create s sz m).1 io aS ids lo aR told w':=by
 obtain⟨Sh,h1,h2⟩:=h.did;exact(sN h1 ok sz m hm).mono (fun e w' hd=>⟨hd.ret,h2 hd.at_ hd.turns⟩)
theorem fM.append (h:fM w S L gs n z bo aj l s io aS ids lo aR told W)(ok:Sr.Ok s)(id off:Int){bn:Nat}(hn:l.length=bn)(hN:bn<=1000000):
 Calls prog 130 #[.pointer (some ⟨gs,0,none⟩),.int .i64 id,.int .i64 off,.slice bo bn aj] W fun e w'=>e=.returned (.int .i64 ((Sr.append s id off l).2:Int))∧fM w S L gs n z bo aj l (Sr.append s id off l).1 io aS ids lo aR told w':=by
 obtain⟨Sh,h1,h2⟩:=h.did;exact(jZ h1 ok id off bo bn aj l h.bytes hn hN).mono (fun e w' hd=>⟨hd.ret,h2 hd.at_ hd.turns⟩)
theorem fM.drop (h:fM w S L gs n z bo aj l s io aS ids lo aR told W)(ok:Sr.Ok s)(id:Int):
 Calls prog 132 #[.pointer (some ⟨gs,0,none⟩),.int .i64 id] W fun e w'=>e=.returned (.int .i64 ((Sr.drop s id).2:Int))∧fM w S L gs n z bo aj l (Sr.drop s id).1 io aS ids lo aR told w':=by
 obtain⟨Sh,h1,h2⟩:=h.did;exact(qQ h1 ok id).mono (fun e w' hd=>⟨hd.ret,h2 hd.at_ hd.turns⟩)
theorem fM.grown (h:fM w S L gs n z bo aj l s io aS ids lo aR told W){LV:Option Addr}{oP:Nat}{i:Int}(hO:aC W' 0 3 1 LV oP (ids.length+1) (EY ids++[.int .i64 i]))(hG:W.grownBy W' (au io))(hat:∀j,au LV=some j->au io=some j∨W.heap.size<=j):
 (W'.heap[L]? = some (QW gs io ids.length aS lo told.length aR))∧fM w S L gs n z bo aj l s LV oP (ids++[i]) lo aR told (W'.setCell ⟨L,1,none⟩ (.slice LV (ids.length+1) oP)):=by
 obtain⟨⟨κ,hH,hS⟩,hT⟩:=h;have h1:=Vj (qR.law _ _) (PI.law _ _ _) hH (EZ:=ids++[i]) (by rw[List.length_append];simpa[EY] using hO) hG hat;have hz:=hG.size;have hr:=(h1 .row).1;have dx:Turns (fun k=>k=L) W' (W'.setCell ⟨L,1,none⟩ (.slice LV (ids.length+1) oP)):=Turns.setCell _ _ _ _ rfl;have h2:=PG (qR.law _ _) (PI.law _ _ _) h1 (o':=QW gs LV (ids.length+1) oP lo told.length aR) (heap_setCell_same W' L 1 _ _ _ hr) dx;have hL:=(hH .row).2;refine⟨hr,⟨⟨bE (bE κ W.heap.size .ids) W'.heap.size .row,?_,oO (oO hS hT.size) (Nat.le_trans hT.size hz)⟩,(hT.trans (Turns.bI (S:=fun k=>au io=some k) hG (fun k e=>e)) (fun k e hk=>?_)).trans dx (fun k e hk=>?_)⟩⟩
 . rw[List.length_append];exact h2
 . cases io with
   | none=>cases e
   | some a =>
     injection e with e;rw[<-e];rw[<-e] at hk;rcases hS a.block (by rw[(hH .ids).2 a rfl];intro h;cases h) with h | h
     . exact h
     . omega
 . rw[e];rw[e] at hk;rcases hS L (by rw[hL];intro h;cases h) with h | h
   . exact h
   . omega
theorem fM.listed (h:fM w S L gs n z bo aj l s io aS ids lo aR told W):∃Sl:Nat->Prop,nS lo aR told W Sl∧∀(lo':Option Addr) (nO m:Nat) (t2:List UInt8) (W':World),told.length+t2.length=m->nS lo' nO (told++t2) W' (av Sl W)->Turns Sl W W' ->
 (W'.heap[L]? = some (QW gs io ids.length aS lo told.length aR))∧fM w S L gs n z bo aj l s io aS ids lo' nO (told++t2) (W'.setCell ⟨L,2,none⟩ (.slice lo' m nO)):=by
 obtain⟨⟨κ,hH,hS⟩,hT⟩:=h;refine⟨fun k=>κ k=.list,hH .list,fun lo' nO m t2 W' hm hO hT1=>?_⟩;have h1:=Sc (qR.law _ _) (PI.law _ _ _) hH hO hT1;have hz:=hT1.size;have hr:=(h1 .row).1;have dx:Turns (fun k=>k=L) W' (W'.setCell ⟨L,2,none⟩ (.slice lo' m nO)):=Turns.setCell _ _ _ _ rfl;have h2:=PG (qR.law _ _) (PI.law _ _ _) h1 (o':=QW gs io ids.length aS lo' m nO) (heap_setCell_same W' L 2 _ _ _ hr) dx;have hL:=(hH .row).2;refine⟨hr,⟨⟨bE (bE κ W.heap.size .list) W'.heap.size .row,?_,oO (oO hS hT.size) (Nat.le_trans hT.size hz)⟩,(hT.trans hT1 (fun k e hk=>?_)).trans dx (fun k e hk=>?_)⟩⟩
 . rw[List.length_append,hm];exact h2
 . rcases hS k (by rw[e];intro h;cases h) with h | h
   . exact h
   . omega
 . rw[e];rw[e] at hk;rcases hS L (by rw[hL];intro h;cases h) with h | h
   . exact h
   . omega
end
section
variable {w w0:World} {S D:Nat->Prop} {L gs:Nat}
theorem PK (p:oN w0 w S)(r:Gt.Ld)(h:fU w S L gs r.s r.ids r.told)(ok:Sr.Ok r.s)(q:Fm.Pt){bo:Option Addr}{aj nb:Nat}(hB:eX w D bo aj q.bytes)(hD:∀k,D k->¬S k)(hn:q.bytes.length=nb)(hnb:nb<=1000000)(hf:q.file.size<=900000)(hi:r.ids.length<=1000)(ht:r.told.length<=1000000):
 Calls prog 199 #[.pointer (some ⟨L,0,none⟩),.agg #[.string q.name,.string q.file,.string q.type,.slice bo nb aj]] w fun e w'=>e=.returned (.int .i64 ((Gt.ji r q).code:Int))∧fU w' (av S w) L gs (Gt.ji r q).s (Gt.ji r q).ids (Gt.ji r q).told∧Turns S w w':=by
 obtain⟨κ,io,aS,lo,aR,hH,hS⟩:=h;have G1:=fM.start hH hS hB hD (.cells #[.string q.name,.string q.file,.string q.type,.slice bo nb aj] 70 (0,0));have vL:Hid (∀{s:Sr.Sh} {io:Option Addr} {aS:Nat} {ids:List Int} {lo:Option Addr} {aR:Nat} {told:List UInt8} {W:World},fM w S L gs w.heap.size (.cells #[.string q.name,.string q.file,.string q.type,.slice bo nb aj] 70 (0,0)) bo aj q.bytes s io aS ids lo aR told W->((W.cell? ⟨L,0,none⟩=some (.pointer (some ⟨gs,0,none⟩))∧W.cell? ⟨L,1,none⟩=some (.slice io ids.length aS)∧W.cell? ⟨L,2,none⟩=some (.slice lo told.length aR))∧(W.frozen? ⟨L,0,none⟩=false∧W.frozen? ⟨L,1,none⟩=false∧W.frozen? ⟨L,2,none⟩=false))∧(W.cell? ⟨w.heap.size,1,none⟩=some (.string q.file)∧W.cell? ⟨w.heap.size,3,none⟩=some (.slice bo nb aj))):=fun hG=>⟨RF hG.row,cell_of_row _ _ 1 _ _ _ hG.box,cell_of_row _ _ 3 _ _ _ hG.box⟩;obtain⟨⟨⟨c0,c1,c2⟩,f0,f1,f2⟩,b1,b3⟩:=vL.o G1;have hmz:(Gt.bG q).size=9+q.file.size:=by
  show(Gt.uR++q.file.data.toList).toArray.size=_;rw[List.size_toArray,List.length_append,Array.length_toList];rfl
 have hme:(⟨#[102,105,108,101,110,97,109,101,32]⟩:ByteArray)++q.file=Gt.bG q:=by
  apply ByteArray.ext;rw[ByteArray.data_append];show _=(Gt.uR++q.file.data.toList).toArray;rw[<-Array.toList_inj];simp[Gt.uR]
 have Ni:=H9 ((G1.stay (aA _ _)).create ok (nb:Int) (Gt.bG q) (by omega));have HP:=H9 p;obtain⟨R,hR⟩:∃R,R=Gt.ji r q:=⟨_,rfl⟩;rw[<-hR];unfold Gt.ji at hR;rw[hn] at hR;have HR:=H9 hR;have lg:=H9 (ok.create (nb:Int) (Gt.bG q));have Y5:Hid ((Sr.create r.s (nb:Int) (Gt.bG q)).2≠0->(Sr.create r.s (nb:Int) (Gt.bG q)).1=r.s):=fun e=>Gt.ER e;have hl0:=ok.h.wU;have hl1:=ok.Di
 have hzz:¬(9223372036854775807<9+q.file.size):=by omega
 rw[<-hme] at Ni HR lg Y5;clear hme;clear G1 hH hS hB p hR ok hmz;generalize hcr:Sr.create r.s (nb:Int) (⟨#[102,105,108,101,110,97,109,101,32]⟩++q.file)=cr at *;clear hcr;obtain⟨s1,k1⟩:=cr;simp only at HR Ni lg Y5;go_enter func199,ntmps199;go_upto_region 1 with fail
 go_cut [5,6] (fun v5 v6 wd=>v5=.int .i64 (Sr.wZ r.s k1)∧v6=.int .i64 (k1:Int)∧fM w S L gs w.heap.size (.cells #[.string q.name,.string q.file,.string q.type,.slice bo nb aj] 70 (0,0)) bo aj q.bytes s1 io aS r.ids lo aR r.told wd)
 case first =>
  go_region_held3 (fun W=>W.cell? ⟨L,0,none⟩=some (.pointer (some ⟨gs,0,none⟩))∧W.cell? ⟨w.heap.size,1,none⟩=some (.string q.file)∧W.cell? ⟨w.heap.size,3,none⟩=some (.slice bo nb aj)) (go_keep) ((go_at_call 119;refine Ni.o.mono ?_;rintro e w1 ⟨rfl,hG⟩;have HG:=H9 hG;obtain⟨⟨⟨d0,d1,d2⟩,e0,e1,e2⟩,d3,d4⟩:=vL.o hG;clear hG))
  all_goals
   go_wp2;go_meet;exact⟨rfl,rfl,HG.o⟩
 case rest =>
  obtain⟨rfl,rfl,hG⟩:=hcut;clear Ni c0 c1 c2 f0 f1 f2 b1 b3;obtain⟨⟨⟨c0,c1,c2⟩,f0,f1,f2⟩,b1,b3⟩:=vL.o hG;have HG:=H9 hG;by_cases hk1:k1=0
  . subst hk1;obtain⟨id,hid⟩:∃id,id=r.s.h.last+1:=⟨_,rfl⟩;have EA:Sr.wZ r.s 0=id:=by rw[hid];exact if_pos rfl
    rw[EA];rw[<-hid,if_neg (by simp)] at HR;have FU:=H9 ((hG.stay (aA _ _)).append lg.o id 0 hn hnb);have Sg:=H9 (lg.o.append id 0 q.bytes);have adB:0<=id:=by omega
    have adC:id<=100001:=by omega
    clear hG EA hid Y5 hl0 hl1;obtain⟨n,rfl⟩:∃n:Nat,id=n:=⟨id.toNat,by omega⟩;generalize Sr.append s1 (n:Int) 0 q.bytes=ap at *;obtain⟨s2,k2⟩:=ap;simp only at HR FU Sg;go_upto_region 4 with fail
    go_cut [6] (fun v6 wd=>v6=.int .i64 (k2:Int)∧fM w S L gs w.heap.size (.cells #[.string q.name,.string q.file,.string q.type,.slice bo nb aj] 70 (0,0)) bo aj q.bytes s2 io aS r.ids lo aR r.told wd)
    case first =>
     go_region_held3 (fun W=>W.cell? ⟨L,0,none⟩=some (.pointer (some ⟨gs,0,none⟩))∧W.cell? ⟨w.heap.size,3,none⟩=some (.slice bo nb aj)) (go_keep) ((go_at_call 130;refine FU.o.mono ?_;rintro e w1 ⟨rfl,hG⟩;have HG2:=H9 hG;obtain⟨⟨⟨d0,d1,d2⟩,e0,e1,e2⟩,d3,d4⟩:=vL.o hG;clear hG))
     all_goals
      go_wp2;go_meet;exact⟨rfl,HG2.o⟩
    case rest =>
     obtain⟨rfl,hG⟩:=hcut;clear FU c0 c1 c2 f0 f1 f2 b1 b3 HG lg;obtain⟨⟨⟨c0,c1,c2⟩,f0,f1,f2⟩,b1,b3⟩:=vL.o hG;have HG:=H9 hG;by_cases hk2:k2=0
     . subst hk2;rw[if_neg (by simp)] at HR;obtain⟨i0,hi0,hz0,hz1,hz2⟩:=info_parts DY;have Hi:=H9 hi0;have gQ:=H9 hz0;have gK:=H9 hz1;have gT:=H9 hz2
       obtain⟨j0,hj0,hy0,hy1,hy2⟩:=info_parts dQ;have Hj:=H9 hj0;have M9:=H9 hy0;have Na:=H9 hy1;have Nb:=H9 hy2
       have Y6:=H9 (hG.stay ((Below.refl _ wc).alloc (Nat.le_refl _) (.cells #[.int .i64 (n:Int)] 3)));have HOi:=H9 Y6.o.ints;obtain⟨⟨⟨a0,a1,a2⟩,g0,g1,g2⟩,a3,a4⟩:=vL.o Y6.o;clear hG hi0 hz0 hz1 hz2 hj0 hy0 hy1 hy2;go_upto_region 9 with (at_builtin;refine aK rfl (.tmp 45) (.tmp 47) 55 rfl 0 3 i0 (.int .i64 0) 1 8 underlying55 Hi.o gQ.o gK.o gT.o rfl (by decide) rfl HOi.o rfl (cu.made _ _ 1 _ _) rfl (fun u hu=>by simp at hu;rw[hu];rfl) (by omega) (by omega) (Nat.zero_le _) ?_;intro LV oP w3 hO3 hG3 dJ;obtain⟨hr3,hg3⟩:=Y6.o.grown hO3 hG3 (fun j e=>by rcases dJ with h | h;exact Or.inl (h▸e);exact Or.inr (by rw[h] at e;injection e with e;omega));have tZ:=H9 hg3;obtain⟨⟨h30,h31,h32⟩,y30,y31,y32⟩:=RF hr3;clear hO3 hG3 dJ hr3 hg3)
       clear a0 a1 a2 a3 a4 g0 g1 g2 h30 h31 h32 y30 y31 y32 c0 c1 c2 f0 f1 f2 b1 b3 HG Y6 HOi;generalize w3.setCell ⟨L,1,none⟩ (.slice LV (r.ids.length+1) oP)=w4 at *;have QX:=H9 (tZ.o.stay (aA _ _));have hpw:gU w4.drew:=HP.o.pow.stay (HP.o.nR.trans (QX.o.turns.below (fun k e=>HP.o.far k e) HP.o.nR.size));have Vh:=H9 (mg n (by omega) w4.drew hpw);obtain⟨⟨⟨c0,c1,c2⟩,f0,f1,f2⟩,b1,b3⟩:=vL.o tZ.o;obtain⟨d,hd⟩:∃d:ByteArray,d=⟨(Ch.bY 8 n).toArray⟩:=⟨_,rfl⟩;have hdz:d.size<=9:=by
        rw[hd];show(Ch.bY 8 n).toArray.size<=9;rw[List.size_toArray];exact(Ch.dA 8 n).1
       have hz1:¬(9223372036854775807<d.size+1):=by omega
       have hz2:¬(9223372036854775807<d.size+1+q.file.size):=by omega
       have hz3:¬(9223372036854775807<d.size+1+q.file.size+1):=by omega
       rw[<-hd] at Vh;have HTl:Hid ((d++⟨#[32]⟩++q.file++⟨#[10]⟩:ByteArray).data.toList=Gt.toldOf (n:Int) q.file):=by
        unfold Hid Gt.toldOf;rw[hd];simp
       have wm:Hid ((d++⟨#[32]⟩++q.file++⟨#[10]⟩:ByteArray).size=d.size+1+q.file.size+1):=by
        unfold Hid;rw[ByteArray.size_append,ByteArray.size_append,ByteArray.size_append];rfl
       have HTs:Hid ((Gt.toldOf (n:Int) q.file).length=d.size+1+q.file.size+1):=by unfold Hid;rw[<-HTl.o,Ch.bC];exact wm.o
       clear hpw hd tZ HP;go_cut [] (fun wd=>fU wd (av S w) L gs s2 (r.ids++[(n:Int)]) (r.told++Gt.toldOf (n:Int) q.file)∧Turns S w wd)
       case first =>
        go_region_law (first
         | (go_simp;go_at_call 122;refine Vh.o.mono ?_;rintro e w5 ⟨rfl,hb5⟩;have Wx:=H9 (QX.o.stay hb5);obtain⟨⟨⟨d0,d1,d2⟩,e0,e1,e2⟩,d3,d4⟩:=vL.o Wx.o;clear hb5)
         | (obtain⟨Sl,hSl,hsl⟩:=Wx.o.listed;have HSl:=H9 hSl;have Hsl:=H9 hsl;clear hSl hsl;refine yQ (by rfl) (.tmp 55) (.tmp 62) 31 9 (by rfl) 5 j0 underlying31 underlying9 Hj.o M9.o Na.o Nb.o (by rfl) rfl HSl.o (d++⟨#[32]⟩++q.file++⟨#[10]⟩) (d.size+1+q.file.size+1) wm.o (by omega) (by rfl) (by omega) ?_;intro lo' nO w6 vF kD;rw[HTl.o] at vF;obtain⟨yU,hg6⟩:=Hsl.o lo' nO (r.told.length+(d.size+1+q.file.size+1)) (Gt.toldOf (n:Int) q.file) w6 (by rw[HTs.o]) vF kD;have Y2:=H9 hg6;obtain⟨⟨h60,TB,h62⟩,y60,y61,y62⟩:=RF yU;have hx6:=cell_of_row _ _ 1 _ _ _ hg6.box;have Vl:=H9 hx6;clear vF kD yU hg6;(try simp only[Act.put,List.setIfInBounds_toArray,List.set_cons_zero,List.set_cons_succ])))
        all_goals
         go_wp2;go_meet;exact Y2.o.done
       case rest =>
        go_wp2;go_ret;rw[HR.o];exact⟨rfl,hcut⟩
     . have t2:((k2:Int) != 0)=true:=by rw[bne_iff_ne];omega
       rw[if_pos hk2] at HR;have Vm:=H9 (hG.drop Sg.o (n:Int));clear hG;go_wp2_with fail
       refine Vm.o.mono ?_;rintro e w3 ⟨rfl,hG3⟩;have tZ:=H9 hG3;clear hG3;go_wp2;go_ret;rw[HR.o];exact⟨rfl,tZ.o.done⟩
  . have t1:((k1:Int) != 0)=true:=by rw[bne_iff_ne];omega
    rw[if_pos hk1] at HR;rw[Y5.o hk1] at HG;clear hG;go_wp2;go_ret;rw[HR.o];exact⟨rfl,HG.o.done⟩
end
def zT (w:World)(D:Nat->Prop)(ao:Option Addr)(cap:Nat)(ps:List Fm.Pt):Prop:=∃qs:List (Fm.Pt×Ng),qs.map (·.1)=ps∧iJ w D ao cap ps.length (mE qs)∧∀q∈qs,eX w D q.2.bo q.2.aj q.1.bytes
section
variable {w w':World} {S D D':Nat->Prop} {ao:Option Addr} {cap:Nat} {ps:List Fm.Pt}
theorem zT.turns (h:zT w D ao cap ps)(ht:Turns S w w')(hs:∀k,D k->¬S k):zT w' D ao cap ps:=by
 obtain⟨qs,h1,h2,h3⟩:=h;exact⟨qs,h1,h2.turns ht hs,fun q hq=>(h3 q hq).turns ht hs⟩
theorem zT.TN (h:zT w D ao cap ps):yO w ao cap ps:=by
 obtain⟨qs,h1,h2,h3⟩:=h;exact⟨qs,h1,h2.is,fun q hq=>(h3 q hq).is⟩
theorem zT.at_ (h:zT w D ao cap ps)(k:Nat)(hk:k<ps.length):∃(b o:Nat) (s:Ng),ao=some ⟨b,o,none⟩∧w.cell? ⟨b,o+k*4,none⟩=some (.string ps[k].name)∧w.cell? ⟨b,o+k*4+1,none⟩=some (.string ps[k].file)∧w.cell? ⟨b,o+k*4+2,none⟩=some (.string ps[k].type)∧w.cell? ⟨b,o+k*4+3,none⟩=some (.slice s.bo ps[k].bytes.length s.aj)∧eX w D s.bo s.aj ps[k].bytes:=by
 obtain⟨qs,rfl,hv,hb⟩:=h;have hk':k<qs.length:=by simpa using hk
 obtain⟨b,o,rfl,hc⟩:=hv.is.lit (by rw[jK];omega);have hq:=hb _ (List.getElem_mem hk');have e0:=jv qs k hk' 0 (by decide);have e1:=jv qs k hk' 1 (by decide);have e2:=jv qs k hk' 2 (by decide);have e3:=jv qs k hk' 3 (by decide);refine⟨b,o,qs[k].2,rfl,?_,?_,?_,?_,?_⟩
 . rw[List.getElem_map];exact hc _ _ (by rw[Nat.add_zero] at e0;exact e0)
 . rw[List.getElem_map,Nat.add_assoc];exact hc _ _ e1
 . rw[List.getElem_map,Nat.add_assoc];exact hc _ _ e2
 . rw[List.getElem_map,Nat.add_assoc];exact hc _ _ e3
 . rw[List.getElem_map];exact hq
theorem jL.aae {w1:World}{n:Nat}(h:jL w1 D ps ao cap n w')(hD:∀k,w1.heap.size<=k->D k):zT w' (fun k=>D k∧k<w'.heap.size) ao cap ps:=by
 obtain⟨qs,h1,h2,h3⟩:=h.own;refine⟨qs,h1,⟨by rw[<-h.len];exact h2.lQ,fun _ a e=>⟨hD _ (h2.block a e).1,(h2.block a e).2⟩⟩,fun q hq=>?_⟩;refine((h3 q hq).mono (S':=fun k=>D k∧k<w1.heap.size) (fun k hk e=>⟨e,hk⟩)).turns (Turns.of_below (S:=fun _=>False) h.below) (fun _ _ e=>e) |>.mono (fun k hk e=>⟨e.1,hk⟩)
end
section
variable {w w0 W W':World} {S S' D:Nat->Prop} {L gs:Nat} {s:Sr.Sh} {io:Option Addr} {aS:Nat} {ids:List Int} {told:List UInt8}
theorem fU.mono (h:fU w S L gs s ids told)(hs:∀k,k<w.heap.size->S k->S' k):fU w S' L gs s ids told:=by
 obtain⟨κ,io,aS,lo,aR,hH,hS⟩:=h;refine⟨bE κ w.heap.size .out,io,aS,lo,aR,fun d=>?_,fun k hk=>?_⟩
 . by_cases hd:d=.out
   . subst hd;exact trivial
   . exact(lN fI.gV fI.gV d).mono (hH d) (fun k hk e=>(bD hk).trans e)
 . rcases Nat.lt_or_ge k w.heap.size with hl | hl
   . rw[bD hl] at hk;exact hs k hl (hS k hk)
   . exact absurd (j4 hl) hk
theorem oN.then_ (p:oN w0 w S)(ht:Turns S w W):oN w0 W (av S w):=⟨p.pow,p.nR.trans (ht.below (fun k e=>p.far k e) p.nR.size),fun k e=>by
 rcases e with e | e
 . exact p.far k e
 . exact Nat.le_trans p.nR.size e⟩
theorem Hy (p:oN w0 w S)(r:Gt.Ld)(h:fU w S L gs r.s r.ids r.told)(hk:Gt.Pk r)(h0:r.code=0)(ps:List Fm.Pt){ao:Option Addr}{cap n:Nat}(hP:zT w D ao cap ps)(hD:∀k,D k->¬S k∧k<w.heap.size)(hn:ps.length=n)(hN:n<=1000000)(hz:∀q∈ps,q.bytes.length<=1000000∧q.file.size<=900000):
 Calls prog 151 #[.pointer (some ⟨L,0,none⟩),.slice ao n cap] w fun e w'=>e=.returned (.int .i64 ((Gt.adds r ps).code:Int))∧fU w' (av S w) L gs (Gt.adds r ps).s (Gt.adds r ps).ids (Gt.adds r ps).told∧Turns S w w':=by
 subst hn;obtain⟨R,hR⟩:∃R,R=Gt.adds r ps:=⟨_,rfl⟩;rw[<-hR];have HP:=H9 p;have Nk:=H9 hP;have HDj:=H9 hD;have HZ:=H9 hz
 have hcap:ps.length<=cap:=hP.TN.choose_spec.2.1.1;have sZ:Hid (∃ri:Gt.Ld,R=Gt.adds ri (ps.drop 0)∧ri.code=0∧Gt.Pk ri∧fU w (av S w) L gs ri.s ri.ids ri.told∧Turns S w w):=⟨r,hR,h0,hk,h.mono (fun k _ e=>Or.inl e),Turns.refl _ _⟩;clear p hP hD hz h hk h0 hR;go_enter func151,ntmps151;go_wp2;go_loopw [10] (fun vi wr=>∃i:Nat,i<=ps.length∧vi=.int .i64 i∧∃ri:Gt.Ld,R=Gt.adds ri (ps.drop i)∧ri.code=0∧Gt.Pk ri∧fU wr (av S w) L gs ri.s ri.ids ri.told∧Turns S w wr) (fun vi _=>ps.length-(intOf vi).toNat)
 case atStart=>exact⟨0,Nat.zero_le _,rfl,sZ.o⟩
 case round =>
  obtain⟨i,hi,rfl,ri,hR,hc,hok,hL,hT⟩:=hrel;by_cases hlt:i<ps.length
  . have hlt':(i:Int)<ps.length:=by omega
    have QY:=Nk.o.turns hT (fun k e=>(HDj.o k e).1);obtain⟨b,o,sl,rfl,c0,c1,c2,c3,hIB⟩:=QY.at_ i hlt;have hq:=HZ.o ps[i] (List.getElem_mem hlt);rw[List.drop_eq_getElem_cons hlt] at hR;obtain⟨nb,hnb⟩:∃nb,ps[i].bytes.length=nb:=⟨_,rfl⟩;rw[hnb] at c3;have hnl:nb<=1000000:=by rw[<-hnb];exact hq.1
    have bQ:=(Below.refl _ wr).alloc (Nat.le_refl _) (.cells #[.string ps[i].name,.string ps[i].file,.string ps[i].type,.slice sl.bo nb sl.aj] 70);have Y7:Turns S w (wr.alloc (.cells #[.string ps[i].name,.string ps[i].file,.string ps[i].type,.slice sl.bo nb sl.aj] 70)):=hT.trans (Turns.of_below (S:=fun _=>False) bQ) (fun _ e _=>e.elim);have Y8:=hL.stay bQ;have hIA:=hIB.turns (Turns.of_below (S:=fun _=>False) bQ) (fun _ _ e=>e);generalize ps[i]=q at *;obtain⟨tf,htf⟩:∃tf,(q.file.toList==([]:List UInt8))=tf:=⟨_,rfl⟩;have eF:q.file.size=0<->tf=true:=by
     rw[<-htf,beq_iff_eq,Lib.toList_data,<-List.length_eq_zero_iff,Array.length_toList];rfl
    have HR:=H9 hR;have HC:=H9 hc;have lg:=H9 hok;have HLA:=H9 Y8;have HTA:=H9 Y7
    cases tf with
    | true =>
      have WA:Hid (R=Gt.adds ri (ps.drop (i+1))):=by unfold Hid;rw[HR.o];unfold Gt.adds;rw[if_pos (eF.2 rfl)];cases ps.drop (i+1) <;> rfl
      clear hR hc hok hL hT QY hIB hIA bQ Y7 Y8 hq eF HR;go_wp2;go_roundw
      case rel=>exact⟨i+1,by omega,by go_num,ri,WA.o,HC.o,lg.o,HLA.o,HTA.o⟩
      case measure=>simp[intOf];omega
    | false =>
      have hfn:¬q.file.size=0:=fun e=>by have:=eF.1 e;cases this
      have iw:ri.ids.length<=12:=by
       rcases hok.few with h | h
       . have:=hok.ok.h.few;omega
       . exact absurd hc h
      have htd:ri.told.length<=1000000:=by have:=hok.told;omega
      have LW:=H9 (PK (HP.o.then_ Y7) ri Y8 hok.ok q hIA (fun k e e2=>by
       rcases e2 with e2 | e2
       . exact(HDj.o k e).1 e2
       . have:=(HDj.o k e).2;omega) hnb hnl hq.2 (by omega) htd)
      have Sg:=H9 (Gt.Lx hok hc q);have WA:Hid (R=if (Gt.ji ri q).code≠0 then Gt.ji ri q else Gt.adds (Gt.ji ri q) (ps.drop (i+1))):=by unfold Hid;rw[HR.o];conv=>lhs;unfold Gt.adds;rw[if_neg hfn]
      clear hR hc hok hL hT QY hIB hIA bQ Y7 Y8 hq eF HR hfn iw htd HLA lg HC;generalize Gt.ji ri q=ra at *;go_wp2_with fail
      refine LW.o.mono ?_;rintro e w5 ⟨rfl,hL5,nD⟩;have kD:Turns S w w5:=HTA.o.trans nD (fun k e hk=>by
       rcases e with e | e
       . exact e
       . omega)
      have hL6:fU w5 (av S w) L gs ra.s ra.ids ra.told:=hL5.mono (fun k _ e=>by
       rcases e with e | e
       . exact e
       . exact Or.inr (Nat.le_trans HTA.o.size e))
      have HT6:=H9 kD;have HL6:=H9 hL6
      clear hL5 nD kD hL6;by_cases hk:ra.code=0
      . have tk:((ra.code:Int) != 0)=false:=by rw[hk];rfl
        rw[if_neg (by rw[hk];simp)] at WA;have HK:=H9 hk;clear hk;go_wp2;go_roundw
        case rel=>exact⟨i+1,by omega,by go_num,ra,WA.o,HK.o,Sg.o,HL6.o,HT6.o⟩
        case measure=>simp[intOf];omega
      . have tk:((ra.code:Int) != 0)=true:=by rw[bne_iff_ne];omega
        rw[if_pos hk] at WA;clear hk;go_wp2;go_ret;rw[WA.o];exact⟨rfl,HL6.o,HT6.o⟩
  . obtain rfl:i=ps.length:=by omega
    rw[List.drop_length] at hR;have hR2:R=ri:=hR;have HR:=H9 hR2;have HC:=H9 hc;have HL:=H9 hL;have HT:=H9 hT
    clear hR hc hok hL hT hR2;go_wp2;go_ret;rw[HR.o,HC.o];exact⟨rfl,HL.o,HT.o⟩
structure Cu (w:World)(S:Nat->Prop)(L gs:Nat)(s:Sr.Sh)(io:Option Addr)(aS:Nat)(ids:List Int)(told:List UInt8)(W:World):Prop where
 held:∃κ lo aR,Held (yX L gs s (QW gs io ids.length aS lo told.length aR) io aS ids lo aR told Ej Ej) κ W∧∀k,κ k≠.out->av S w k
 turns:Turns S w W
theorem fU.aai (h:fU w S L gs s ids told):∃io aS,Cu w S L gs s io aS ids told w:=by
 obtain⟨κ,io,aS,lo,aR,hH,hS⟩:=h;exact⟨io,aS,⟨κ,lo,aR,hH,fun k e=>Or.inl (hS k e)⟩,Turns.refl _ _⟩
theorem Cu.done (h:Cu w S L gs s io aS ids told W):fU W (av S w) L gs s ids told∧Turns S w W:=by
 obtain⟨⟨κ,lo,aR,hH,hS⟩,hT⟩:=h;exact⟨⟨κ,io,aS,lo,aR,hH,hS⟩,hT⟩
theorem Cu.cells (h:Cu w S L gs s io aS ids told W):W.cell? ⟨L,0,none⟩=some (.pointer (some ⟨gs,0,none⟩))∧W.cell? ⟨L,1,none⟩=some (.slice io ids.length aS)∧cu W io aS ids.length (EY ids):=by
 obtain⟨⟨κ,lo,aR,hH,hS⟩,hT⟩:=h;exact⟨cell_of_row _ _ 0 _ _ _ (hH .row).1,cell_of_row _ _ 1 _ _ _ (hH .row).1,(hH .ids).1.lQ⟩
theorem Cu.drop (h:Cu w S L gs s io aS ids told W)(ok:Sr.Ok s)(id:Int):
 Calls prog 132 #[.pointer (some ⟨gs,0,none⟩),.int .i64 id] W fun e w'=>e=.returned (.int .i64 ((Sr.drop s id).2:Int))∧Cu w S L gs (Sr.drop s id).1 io aS ids told w':=by
 obtain⟨⟨κ,lo,aR,hH,hS⟩,hT⟩:=h;refine(qQ (hH .dn) ok id).mono (fun e w' hd=>⟨hd.ret,⟨⟨_,lo,aR,Ct fI.gV fI.gV hH hd.at_ hd.turns,oO hS hT.size⟩,hT.trans hd.turns (fun k e hk=>?_)⟩⟩);rcases hS k (by rw[e];intro h;cases h) with h | h
 . exact h
 . omega
theorem Cv (s:Sr.Sh)(ids:List Int)(k:Nat)(hk:k<ids.length):Gt.jo s (ids.take (k+1))=(Sr.drop (Gt.jo s (ids.take k)) ids[k]).1:=by
 unfold Gt.jo;rw[List.take_succ_eq_append_getElem hk,List.foldl_append];rfl
theorem E5 (h:fU w S L gs s ids told)(ok:Sr.Ok s)(hN:ids.length<=1000000):
 Calls prog 152 #[.pointer (some ⟨L,0,none⟩)] w fun e w'=>e=.returned (.tuple #[])∧fU w' (av S w) L gs (Gt.jo s ids) ids told∧Turns S w w':=by
 obtain⟨io,aS,hI⟩:=h.aai;obtain⟨c0,c1,hV⟩:=hI.cells;have HI:=H9 hI;have HO:=H9 ok
 have hcap:=hV.1;clear h hI ok;go_enter func152,ntmps152;go_wp2;go_loopw [9] (fun vi wr=>∃i:Nat,i<=ids.length∧vi=.int .i64 i∧Cu w S L gs (Gt.jo s (ids.take i)) io aS ids told wr) (fun vi _=>ids.length-(intOf vi).toNat)
 case atStart=>exact⟨0,Nat.zero_le _,rfl,HI.o⟩
 case round =>
  obtain⟨i,hi,rfl,hG⟩:=hrel;have HG:=H9 hG;clear c0 c1 hV;obtain⟨c0,c1,hV⟩:=hG.cells;by_cases hlt:i<ids.length
  . have hlt':(i:Int)<ids.length:=by omega
    obtain⟨b,o,rfl,hc⟩:=hV.lit (by simp[EY];omega);have ci:=hc i (.int .i64 ids[i]) (by unfold EY;rw[List.getElem?_map,List.getElem?_eq_getElem hlt];rfl);have Vm:=H9 (hG.drop (Gt.mW (ids.take i) HO.o) ids[i]);rw[<-Cv s ids i hlt] at Vm;clear hG hV hc;generalize ids[i]=x at *;go_wp2_with fail
    refine Vm.o.mono ?_;rintro e w5 ⟨rfl,Ez⟩;have Wx:=H9 Ez;clear Ez;go_wp2;go_roundw
    case rel=>exact⟨i+1,by omega,by go_num,Wx.o⟩
    case measure=>simp[intOf];omega
  . obtain rfl:i=ids.length:=by omega
    have hd:=HG.o.done;rw[List.take_length] at hd;have HDn:=H9 hd;clear hG hV hd;go_wp2;go_end0
    exact⟨rfl,HDn.o⟩
theorem LX (h:fU w S L gs s ids told):
 Calls prog 153 #[.pointer (some ⟨L,0,none⟩),.int .i64 0] w fun e w'=>(∃bo aj,e=.returned (.agg #[.int .i64 201,.slice none 0 0,.slice bo told.length aj])∧aU w' bo aj told∧∀a,bo=some a->S a.block)∧Below w.heap.size w w':=by
 obtain⟨κ,io,aS,lo,aR,hH,hS⟩:=h;obtain⟨⟨c0,c1,c2⟩,_⟩:=RF (hH .row).1;have HB:=H9 (nS.qc (hH .list));have Nf:Hid (∀a,lo=some a->S a.block):=fun a e=>by
  rcases hH .list with ⟨h1,_⟩ | ⟨g,h1,_,h2⟩
  . rw[h1] at e;cases e
  . rw[h1] at e;injection e with e;subst e;exact hS g (by rw[h2];intro h;cases h)
 have hlt:L<w.heap.size:=(Array.getElem?_eq_some_iff.1 (hH .row).1).1;clear hH hS;go_enter func153,ntmps153;go_wp2;have hb:Below w.heap.size w (w.alloc (.cells #[.int .i64 201,.slice none 0 0,.slice lo told.length aR] 88)):=(Below.refl _ _).alloc (Nat.le_refl _) _;refine bodyPost_ret (v:=.agg #[.int .i64 201,.slice none 0 0,.slice lo told.length aR]) (by simp[results,results153,go_sem]) rfl ⟨⟨lo,aR,rfl,HB.o.stay hb,Nf.o⟩,hb⟩
theorem LZ (c:Nat)(hc:c≠0):
 Calls prog 153 #[.pointer (some ⟨L,0,none⟩),.int .i64 (c:Int)] w fun e w'=>e=.returned (.agg #[.int .i64 (Gt.stat c:Int),.slice none 0 0,.slice none 0 0])∧Below w.heap.size w w':=by
 have H1:=H9 (fun W=>jJ 413 W);have H2:=H9 (fun W=>jJ 507 W);have t0:((c:Int)==0)=false:=beq_eq_false_iff_ne.2 (by omega);by_cases h:c=4
 . subst h;go_enter func153,ntmps153;go_wp2_with fail
   refine(H1.o _).mono ?_;rintro e w1 ⟨rfl,hb⟩;obtain⟨⟨z0,z1,z2,y0,y1,y2⟩,HE⟩:=yM ((hb.block w.heap.size (by simp)).trans (heap_alloc_new w _)) (.int .i64 413) (.slice none 0 0) (.slice none 0 0);have HB:=H9 (then_ ((Below.refl _ w).alloc (Nat.le_refl _) _) hb);clear hb;go_wp2;generalize (((w1.setCell ⟨w.heap.size,0,none⟩ _).setCell ⟨w.heap.size,1,none⟩ _).setCell ⟨w.heap.size,2,none⟩ _)=wf at *;obtain⟨q0,q1,q2,q3⟩:=HE.o;refine bodyPost_ret (v:=.agg #[.int .i64 413,.slice none 0 0,.slice none 0 0]) (by simp[results,results153,go_sem,q0,q1,q2]) rfl ⟨rfl,HB.o.trans (q3.below (fun k e=>by omega) HB.o.size)⟩
 . have t:((c:Int)==4)=false:=beq_eq_false_iff_ne.2 (by omega);have hf:Gt.stat c=507:=by unfold Gt.stat;rw[if_neg h]
   rw[hf];go_enter func153,ntmps153;go_wp2_with fail
   refine(H2.o _).mono ?_;rintro e w1 ⟨rfl,hb⟩;obtain⟨⟨z0,z1,z2,y0,y1,y2⟩,HE⟩:=yM ((hb.block w.heap.size (by simp)).trans (heap_alloc_new w _)) (.int .i64 507) (.slice none 0 0) (.slice none 0 0);have HB:=H9 (then_ ((Below.refl _ w).alloc (Nat.le_refl _) _) hb);clear hb;go_wp2;generalize (((w1.setCell ⟨w.heap.size,0,none⟩ _).setCell ⟨w.heap.size,1,none⟩ _).setCell ⟨w.heap.size,2,none⟩ _)=wf at *;obtain⟨q0,q1,q2,q3⟩:=HE.o;refine bodyPost_ret (v:=.agg #[.int .i64 507,.slice none 0 0,.slice none 0 0]) (by simp[results,results153,go_sem,q0,q1,q2]) rfl ⟨rfl,HB.o.trans (q3.below (fun k e=>by omega) HB.o.size)⟩
end
structure J4 (S:Nat->Prop)(w:World)(gs:Nat)(r:Sr.Sh×Gt.qY)(e:Ending)(w':World):Prop where
 ret:∃(fo:Option Addr) (ak nf:Nat) (bo:Option Addr) (aj nb:Nat),e=.returned (.agg #[.int .i64 (r.2.1:Int),.slice fo nf ak,.slice bo nb aj])∧r.2.2.1.length=nf∧cu w' fo ak nf (aB r.2.2.1)∧r.2.2.2.length=nb∧aU w' bo aj r.2.2.2∧(∀a,fo=some a->av S w a.block)∧∀a,bo=some a->av S w a.block
 at_:aN w' (av S w) gs r.1
 turns:Turns S w w'
section
variable {w w0 W W':World} {S S' D:Nat->Prop} {g gs b:Nat} {s:Sr.Sh}
structure uJ (S:Nat->Prop)(w:World)(gs:Nat)(s:Sr.Sh)(b:Nat)(o:Obj)(W:World):Prop where
 box:W.heap[b]? = some o
 new:w.heap.size<=b
 st:aN W (fun k=>av S w k∧k≠b) gs s
 turns:Turns S w W
theorem uJ.ends {x0 x1 x2:Value}(h:uJ S w gs s b (.cells #[x0,x1,x2] 88 (0,0)) W){st:Nat}{fV:Int}(hst:(st:Int)=fV){l:List (ByteArray×ByteArray)}{body:List UInt8}{fo bo:Option Addr}{ak nf aj nb:Nat}(hn:l.length=nf)(hF:cu W fo ak nf (aB l))(hFb:∀a,fo=some a->av S w a.block∧a.block≠b)(hm:body.length=nb)(hB:aU W bo aj body)(hBb:∀a,bo=some a->av S w a.block∧a.block≠b):
 (W.cell? ⟨b,0,none⟩=some x0∧W.cell? ⟨b,1,none⟩=some x1∧W.cell? ⟨b,2,none⟩=some x2∧W.frozen? ⟨b,0,none⟩=false∧W.frozen? ⟨b,1,none⟩=false∧W.frozen? ⟨b,2,none⟩=false) ∧
 Hid ((((W.setCell ⟨b,0,none⟩ (.int .i64 fV)).setCell ⟨b,1,none⟩ (.slice fo nf ak)).setCell ⟨b,2,none⟩ (.slice bo nb aj)).cell? ⟨b,0,none⟩=some (.int .i64 fV)∧(((W.setCell ⟨b,0,none⟩ (.int .i64 fV)).setCell ⟨b,1,none⟩ (.slice fo nf ak)).setCell ⟨b,2,none⟩ (.slice bo nb aj)).cell? ⟨b,1,none⟩=some (.slice fo nf ak)∧(((W.setCell ⟨b,0,none⟩ (.int .i64 fV)).setCell ⟨b,1,none⟩ (.slice fo nf ak)).setCell ⟨b,2,none⟩ (.slice bo nb aj)).cell? ⟨b,2,none⟩=some (.slice bo nb aj)∧J4 S w gs (s,(st,l,body)) (.returned (.agg #[.int .i64 fV,.slice fo nf ak,.slice bo nb aj])) (((W.setCell ⟨b,0,none⟩ (.int .i64 fV)).setCell ⟨b,1,none⟩ (.slice fo nf ak)).setCell ⟨b,2,none⟩ (.slice bo nb aj))):=by
 subst hst;obtain⟨h1,h2⟩:=yM h.box (.int .i64 (st:Int)) (.slice fo nf ak) (.slice bo nb aj);obtain⟨q0,q1,q2,q3⟩:=h2.out;refine⟨h1,q0,q1,q2,⟨⟨fo,ak,nf,bo,aj,nb,rfl,hn,hF.turns q3 (fun a e=>(hFb a e).2),hm,hB.turns q3 (fun a e=>(hBb a e).2),fun a e=>(hFb a e).1,fun a e=>(hBb a e).1⟩,(h.st.turns q3 (fun k e e2=>e.2 e2)).mono (fun k _ e=>e.1),h.turns.trans q3 (fun k e hk=>?_)⟩⟩;have:=h.new;omega
theorem uJ.did {o:Obj}{s':Sr.Sh}(h:uJ S w gs s b o W)(hA:aN W' (av (fun k=>av S w k∧k≠b) W) gs s')(hT:Turns (fun k=>av S w k∧k≠b) W W'):uJ S w gs s' b o W':=by
 have hz:=h.turns.size;have hlt:b<W.heap.size:=(Array.getElem?_eq_some_iff.1 h.box).1;refine⟨hT.row h.box (fun e=>e.2 rfl),h.new,hA.mono (fun k _ e=>?_),h.turns.trans hT (fun k e hk=>?_)⟩
 . rcases e with e | e
   . exact e
   . exact⟨Or.inr (by omega),by omega⟩
 . rcases e.1 with e | e
   . exact e
   . omega
theorem uJ.stay {o:Obj}(h:uJ S w gs s b o W)(hb:Below W.heap.size W W'):uJ S w gs s b o W' :=
 ⟨(hb.block b (Array.getElem?_eq_some_iff.1 h.box).1).trans h.box,h.new,h.st.stay hb,h.turns.trans (Turns.of_below (S:=fun _=>False) hb) (fun _ e _=>e.elim)⟩
theorem uJ.start (h:aN w S gs s)(z o:Obj):uJ S w gs s (w.heap.size+1) o ((w.alloc z).alloc o)∧((w.alloc z).alloc o).heap[w.heap.size]? = some z:=by
 have hb1:=(Below.refl _ w).alloc (Nat.le_refl _) z;have hb2:=(Below.refl _ (w.alloc z)).alloc (Nat.le_refl _) o;have hz:(w.alloc z).heap.size=w.heap.size+1:=World.size_alloc ..;refine⟨⟨?_,by omega,?_,Turns.of_below (then_ hb1 hb2)⟩,?_⟩
 . have:=heap_alloc_new (w.alloc z) o;rw[hz] at this;exact this
 . exact((h.mono (S':=fun k=>av S w k∧k≠w.heap.size+1) (fun k hk e=>⟨Or.inl e,by omega⟩)).stay hb1).stay hb2
 . exact(hb2.block w.heap.size (by omega)).trans (heap_alloc_new w z)
theorem fU.sync {L:Nat}{ids:List Int}{told:List UInt8}(h:fU w S L gs s ids told):Calls prog 121 #[.pointer (some ⟨gs,0,none⟩)] w fun e w'=>e=.returned (.tuple #[])∧fU w' (av S w) L gs (Sr.sync s) ids told∧Turns S w w':=by
 obtain⟨κ,io,aS,lo,aR,hH,hS⟩:=h;exact(jk (hH .dn)).mono (fun e w' ⟨he,hA,hT⟩=>⟨he,⟨_,io,aS,lo,aR,Ct fI.gV fI.gV hH (aN.mono hA (fun k _ e=>Or.inl e)) hT,oO (fun k e=>Or.inl (hS k e)) (Nat.le_refl _)⟩,hT.mono (fun k e=>hS k (by rw[e];intro h;cases h))⟩)
theorem fU.dn {L:Nat}{ids:List Int}{told:List UInt8}(h:fU w S L gs s ids told):aN w S gs s:=by
 obtain⟨κ,io,aS,lo,aR,hH,hS⟩:=h;exact aN.mono (hH .dn) (fun k _ e=>hS k (by rw[e];intro h;cases h))
theorem fU.cell0 {L:Nat}{ids:List Int}{told:List UInt8}(h:fU w S L gs s ids told):w.cell? ⟨L,0,none⟩=some (.pointer (some ⟨gs,0,none⟩)):=by
 obtain⟨κ,io,aS,lo,aR,hH,hS⟩:=h;exact cell_of_row _ _ 0 _ _ _ (hH .row).1
structure Iz (S:Nat->Prop)(w:World)(gs b L:Nat)(o:Obj)(B:World)(s:Sr.Sh)(ids:List Int)(told:List UInt8)(W:World):Prop where
 land:fU W (av (fun k=>(S k∧k<w.heap.size)∨k=L) B) L gs s ids told
 turns:Turns (fun k=>(S k∧k<w.heap.size)∨k=L) B W
 box:W.heap[b]? = some o
theorem Iz.did {L:Nat}{o:Obj}{B:World}{s':Sr.Sh}{ids EZ:List Int}{told told':List UInt8}(h:Iz S w gs b L o B s ids told W)(hb:w.heap.size<=b)(hL:b<L)(hB:L<B.heap.size)(hA:fU W' (av (av (fun k=>(S k∧k<w.heap.size)∨k=L) B) W) L gs s' EZ told')(hT:Turns (av (fun k=>(S k∧k<w.heap.size)∨k=L) B) W W'):Iz S w gs b L o B s' EZ told' W':=by
 have hz:=h.turns.size;refine⟨hA.mono (fun k _ e=>?_),h.turns.then_ hT,hT.row h.box (fun e=>?_)⟩
 . rcases e with e | e
   . exact e
   . exact Or.inr (by omega)
 . rcases e with (e | e) | e
   . have:=e.2;omega
   . omega
   . omega
theorem Iz.bx {L:Nat}{o:Obj}{B:World}{ids:List Int}{told:List UInt8}(h:Iz S w gs b L o B s ids told W)(hb:w.heap.size<=b)(hL:b<L)(hB:L<B.heap.size)(hw:Below w.heap.size w B):uJ S w gs s b o W:=by
 have hz:=h.turns.size;refine⟨h.box,hb,h.land.dn.mono (fun k _ e=>?_),(Turns.of_below hw).trans h.turns (fun k e hk=>?_)⟩
 . rcases e with (e | e) | e
   . exact⟨Or.inl e.1,by have:=e.2;omega⟩
   . exact⟨Or.inr (by omega),by omega⟩
   . exact⟨Or.inr (by omega),by omega⟩
 . rcases e with e | e
   . exact e.1
   . omega
theorem fU.begin_ {n:Nat}(h:aN w (fun k=>S k∧k<n) gs s)(hn:n<=w.heap.size):fU (w.alloc (.cells #[.pointer (some ⟨gs,0,none⟩),.slice none 0 0,.slice none 0 0] 214)) (fun k=>S k∧k<n∨k=w.heap.size) w.heap.size gs s [] []:=by
 have hb:=(Below.refl _ w).alloc (Nat.le_refl _) (.cells #[.pointer (some ⟨gs,0,none⟩),.slice none 0 0,.slice none 0 0] 214);classical
 refine⟨fun k=>if k=w.heap.size then .row else if S k∧k<n then .dn else .out,none,0,none,0,fun d=>?_,fun k hk=>?_⟩
 . cases d with
   | row=>exact⟨heap_alloc_new w _,if_pos rfl⟩
   | dn=>exact aN.mono (h.stay hb) (fun k _ e=>by
    show(if k=w.heap.size then Hw.row else if S k∧k<n then .dn else .out)=.dn;rw[if_neg (by have:=e.2;omega),if_pos e])
   | ids=>exact⟨aC.nil _ _ _ _,fun a e=>by cases e⟩
   | list=>exact nS.nil _ _
   | box=>exact trivial
   | out=>exact trivial
 . simp only at hk;by_cases h1:k=w.heap.size
   . exact Or.inr h1
   . rw[if_neg h1] at hk;by_cases h2:S k∧k<n
     . exact Or.inl h2
     . rw[if_neg h2] at hk;exact absurd rfl hk
end
section
variable {w w0:World} {S:Nat->Prop} {g gs:Nat} {s:Sr.Sh}
theorem bU (S:Nat->Prop)(w:World)(b:Nat):∀a,(none:Option Addr)=some a->av S w a.block∧a.block≠b:=fun a e=>by cases e
theorem Ql (p:oN w0 w S)(h:aN w S gs s)(ok:Sr.Ok s)(hg:w.cell? ⟨g,0,none⟩=some (.pointer (some ⟨gs,0,none⟩))){m t:ByteArray}{mi ln:Int}{l:List (ByteArray×ByteArray)}{fo:Option Addr}{ak nf:Nat}(hF:jI w l fo ak nf)(body:List UInt8){bo:Option Addr}{aj nb:Nat}(hb:body.length=nb)(hB:aU w bo aj body)(hnb:nb<=20000):
 Calls prog 110 #[.pointer (some ⟨g,0,none⟩),.agg #[.string m,.string t,.int .i64 mi,.slice fo nf ak,.int .i64 ln,.slice bo nb aj]] w fun e w'=>J4 S w gs (Gt.land s l body) e w':=by
 obtain⟨R,hR⟩:∃R,R=Gt.land s l body:=⟨_,rfl⟩;rw[<-hR];obtain⟨hX,vG⟩:=uJ.start h (.cells #[.string m,.string t,.int .i64 mi,.slice fo nf ak,.int .i64 ln,.slice bo nb aj] 75) (.cells #[.int .i64 0,.slice none 0 0,.slice none 0 0] 88);have UH:g<w.heap.size:=World.block_lt_of_cell? w _ hg;have hbb:Below w.heap.size w ((w.alloc (.cells #[.string m,.string t,.int .i64 mi,.slice fo nf ak,.int .i64 ln,.slice bo nb aj] 75)).alloc (.cells #[.int .i64 0,.slice none 0 0,.slice none 0 0] 88)):=then_ ((Below.refl _ w).alloc (Nat.le_refl _) _) ((Below.refl _ _).alloc (Nat.le_refl _) _);have Q5:=H9 (yP (hF.stay hbb));have sZ:Hid (∀W,Below w.heap.size w W->aN W (fun k=>S k∧k<w.heap.size) gs s):=fun W hW=>(h.mono (S':=fun k=>S k∧k<w.heap.size) (fun k hk e=>⟨e,hk⟩)).stay hW;have HIb:Hid (∀W,Below w.heap.size w W->aU W bo aj body):=fun W hW=>hB.stay hW;have HG:Hid (∀W,Below w.heap.size w W->W.cell? ⟨g,0,none⟩=some (.pointer (some ⟨gs,0,none⟩))):=fun W hW=>(hW.cell (p:=⟨g,0,none⟩) UH).trans hg;have HP:=H9 p;have lg:=H9 ok
 have hs1:((w.alloc (.cells #[.string m,.string t,.int .i64 mi,.slice fo nf ak,.int .i64 ln,.slice bo nb aj] 75)).alloc (.cells #[.int .i64 0,.slice none 0 0,.slice none 0 0] 88)).heap.size=w.heap.size+2:=by simp
 clear h hB hF p ok hg;go_enter func110,ntmps110;go_upto_region 1 with fail
 generalize hW1:((w.alloc (.cells #[.string m,.string t,.int .i64 mi,.slice fo nf ak,.int .i64 ln,.slice bo nb aj] 75)).alloc (.cells #[.int .i64 0,.slice none 0 0,.slice none 0 0] 88))=W1 at *;clear hW1;have a3:=cell_of_row W1 _ 3 _ _ _ vG;simp at a3;have HX:=H9 hX;have zQ:=H9 hbb;have Ws:=H9 vG;have Bc:=H9 hs1
 clear hX hbb vG hs1;go_wp2_with fail
 refine Q5.o.mono ?_;rintro e w1 ⟨rfl,hb1⟩;have TM:=H9 (HX.o.stay hb1);have HB1:=H9 (then_ zQ.o hb1);have hsz1:=hb1.size;have a5:w1.cell? ⟨w.heap.size,5,none⟩=some (.slice bo nb aj):=by
  have:=cell_of_row w1 _ 5 _ _ _ ((hb1.block w.heap.size (by have:=Bc.o;omega)).trans Ws.o);simpa using this
 have X8:Hid (w.heap.size+2<=w1.heap.size):=by have:=Bc.o;unfold Hid;omega
 clear hb1 hsz1 Ws HX Q5;cases hbd:Gt.bound l with
 | none =>
   have HR:Hid (R=(s,(415,[],[]))):=hR.trans (Gt.Ml hbd);clear hR hbd;have H5:=H9 (fun W=>jJ 415 W);simp only[Option.elim,Option.isSome];go_wp2_with fail
   refine(H5.o _).mono ?_;rintro e w2 ⟨rfl,hb2⟩;obtain⟨⟨z0,z1,z2,y0,y1,y2⟩,HE⟩:=(TM.o.stay hb2).ends (st:=415) (fV:=415) rfl (l:=[]) (body:=[]) rfl (cu.nil _) (bU _ _ _) rfl (aU.nil _) (bU _ _ _);clear hb2;go_wp2;generalize (((w2.setCell ⟨w.heap.size+1,0,none⟩ _).setCell ⟨w.heap.size+1,1,none⟩ _).setCell ⟨w.heap.size+1,2,none⟩ _)=wf at *;obtain⟨q0,q1,q2,q3⟩:=HE.o;refine bodyPost_ret (v:=.agg #[.int .i64 415,.slice none 0 0,.slice none 0 0]) (by simp[results,results110,go_sem,q0,q1,q2]) rfl ?_;rw[HR.o];exact q3
 | some bd =>
   simp only[Option.elim,Option.isSome];have Zj:=H9 (Qb (Gt.txt bd) body bo aj nb w1 (HIb.o _ HB1.o) hb hnb);rw[show(Gt.txt bd).data.toList=bd from by unfold Gt.txt;simp] at Zj;go_wp2_with fail
   refine Zj.o.mono ?_;rintro e w2 hRd;cases hRd with
   | no c hc X9 he hb2 =>
     subst he;have hpn:Gt.parts bd body=none:=by
      unfold Gt.parts;rw[if_neg];rintro ⟨e1,e2⟩;rcases X9 with ⟨h1,_⟩ | ⟨_,h1⟩
      . rw[h1] at e1;cases e1
      . exact hc (by rw[<-h1];exact e2)
     have HR:Hid (R=(s,(400,[],[]))):=hR.trans (Gt.Qk hbd hpn);have tc:((c:Int) != 0)=true:=by rw[bne_iff_ne];omega
     have Pp:=H9 (TM.o.stay hb2);clear hR hbd hpn X9 hb2 hc Zj;have H4:=H9 (fun W=>jJ 400 W);go_wp2_with fail
     refine(H4.o _).mono ?_;rintro e w3 ⟨rfl,hb3⟩;obtain⟨⟨z0,z1,z2,y0,y1,y2⟩,HE⟩:=(Pp.o.stay hb3).ends (st:=400) (fV:=400) rfl (l:=[]) (body:=[]) rfl (cu.nil _) (bU _ _ _) rfl (aU.nil _) (bU _ _ _);clear hb3;go_wp2;generalize (((w3.setCell ⟨w.heap.size+1,0,none⟩ _).setCell ⟨w.heap.size+1,1,none⟩ _).setCell ⟨w.heap.size+1,2,none⟩ _)=wf at *;obtain⟨q0,q1,q2,q3⟩:=HE.o;refine bodyPost_ret (v:=.agg #[.int .i64 400,.slice none 0 0,.slice none 0 0]) (by simp[results,results110,go_sem,q0,q1,q2]) rfl ?_;rw[HR.o];exact q3
   | yes hm hcl w15 Ya ao cap n he hP hb2 =>
     subst he;obtain⟨ps,hps⟩:∃ps,ps=Fm.jF (fP (Fm.outs (Fm.mark bd) Fm.start body)):=⟨_,rfl⟩;have hpp:Gt.parts bd body=some ps:=by unfold Gt.parts;rw[if_pos ⟨hm,hcl⟩,hps]
     rw[<-hps] at hP;obtain⟨hrm,hpl,hpz⟩:=Gt.Fx hpp (by have:=(oU hm).long;omega) (oU hm).good (by decide) (by rw[hb];exact hnb);have hn:=hP.len;subst hn;have hPD:=hP.aae (fun k e=>Nat.le_trans Ya e);have hB2:=then_ HB1.o hb2;have aaI:Hid (w.heap.size+2<=w2.heap.size):=Nat.le_trans X8.o hb2.size;have hX2:=TM.o.stay hb2;have hgc:=HG.o w2 hB2;have Yb:=H9 (Hl (hPD.TN.stay (aA _ _)) rfl hrm);have yJ:Hid (Below w.heap.size w w2.drew):=then_ hB2 (aA _ _);obtain⟨rm,VO⟩:∃rm,rm=Gt.room ps:=⟨_,rfl⟩;rw[<-VO] at Yb hrm;have Iq:=H9 (fun W (hW:Below w.heap.size w W)=>nH (sZ.o W hW) (rm:Int));obtain⟨bf,hbf⟩:∃bf,bf=decide (100000<s.log.length+rm):=⟨_,rfl⟩;have hrb:(decide ((0:Int)<=(rm:Int))&&decide ((rm:Int)<=100000-(s.log.length:Int)))=!bf:=by
      rw[hbf,decide_eq_true (by omega:(0:Int)<=(rm:Int)),Bool.true_and,<-decide_not,decide_eq_decide];omega
     rw[hrb] at Iq;have RV:=H9 hbf;have VN:=H9 VO
     clear hbf VO;have Pp:=H9 hX2;have HB2:=H9 hB2;have HPD:=H9 hPD;have HPz:=H9 hpz
     clear hP hps hm hcl Ya hPD hB2 hX2 hpz Zj hb2 TM HB1 hrb;go_upto_region 7 with fail
     go_cut [31] (fun v wd=>v=.bool bf∧Below w2.heap.size w2 wd)
     case first =>
      go_region_held3 (fun W=>W.cell? ⟨g,0,none⟩=some (.pointer (some ⟨gs,0,none⟩))) (go_keep) (first
       | (go_at_call 150;refine Yb.o.mono ?_;rintro e w3 ⟨rfl,hb3⟩;have HB3:Hid (Below w2.heap.size w2 w3):=then_ (aA _ _) hb3;have hg3:=HG.o w3 (then_ HB2.o HB3.o);clear hb3)
       | (go_at_call 129;refine(Iq.o _ (then_ HB2.o HB3.o)).mono ?_;rintro e w4 ⟨rfl,hw⟩;subst hw))
      all_goals
       go_wp2;go_meet;exact⟨rfl,HB3.o⟩
     case rest =>
      obtain⟨rfl,hb3⟩:=hcut;have Ve:=H9 (Pp.o.stay hb3);have HB3:=H9 hb3
      clear hgc Yb Iq yJ Pp;cases bf with
      | true =>
        have hfull:100000<s.log.length+rm:=of_decide_eq_true RV.o.symm;have HR:Hid (R=(s,(507,[],[]))):=hR.trans (Gt.Mq hbd hpp (by rw[<-VN.o];exact hfull));clear hR hbd hpp hb3 hfull RV;have H4:=H9 (fun W=>jJ 507 W);go_wp2_with fail
        refine(H4.o _).mono ?_;rintro e w3 ⟨rfl,hb3⟩;obtain⟨⟨z0,z1,z2,y0,y1,y2⟩,HE⟩:=(Ve.o.stay hb3).ends (st:=507) (fV:=507) rfl (l:=[]) (body:=[]) rfl (cu.nil _) (bU _ _ _) rfl (aU.nil _) (bU _ _ _);clear hb3;go_wp2;generalize (((w3.setCell ⟨w.heap.size+1,0,none⟩ _).setCell ⟨w.heap.size+1,1,none⟩ _).setCell ⟨w.heap.size+1,2,none⟩ _)=wf at *;obtain⟨q0,q1,q2,q3⟩:=HE.o;refine bodyPost_ret (v:=.agg #[.int .i64 507,.slice none 0 0,.slice none 0 0]) (by simp[results,results110,go_sem,q0,q1,q2]) rfl ?_;rw[HR.o];exact q3
      | false =>
        have hfull:¬100000<s.log.length+rm:=of_decide_eq_false RV.o.symm;have HR:Hid (R=Gt.ends (Gt.adds ⟨s,[],[],0⟩ ps)):=hR.trans (Gt.Mr hbd hpp (by rw[<-VN.o];exact hfull));have hgc:=HG.o wc (then_ HB2.o hb3);have hz3:=hb3.size;have hz2:=HB2.o.size
        have hL0:=fU.begin_ (sZ.o wc (then_ HB2.o hb3)) (by omega);have hbL:=(Below.refl _ wc).alloc (Nat.le_refl _) (.cells #[.pointer (some ⟨gs,0,none⟩),.slice none 0 0,.slice none 0 0] 214);have Yc:zT (wc.alloc (.cells #[.pointer (some ⟨gs,0,none⟩),.slice none 0 0,.slice none 0 0] 214)) (fun k=>w1.heap.size<=k∧k<w2.heap.size) ao cap ps:=HPD.o.turns (Turns.of_below (S:=fun _=>False) (then_ hb3 hbL)) (fun _ _ e=>e);have hwB:Below w.heap.size w (wc.alloc (.cells #[.pointer (some ⟨gs,0,none⟩),.slice none 0 0,.slice none 0 0] 214)):=then_ (then_ HB2.o hb3) hbL;have hpw:oN w0 (wc.alloc (.cells #[.pointer (some ⟨gs,0,none⟩),.slice none 0 0,.slice none 0 0] 214)) (fun k=>(S k∧k<w.heap.size)∨k=wc.heap.size):=⟨HP.o.pow,HP.o.nR.trans (hwB.mono HP.o.nR.size),fun k e=>by
         rcases e with e | e
         . exact HP.o.far k e.1
         . have:=HP.o.nR.size;omega⟩
        have HAA:=H9 (Hy hpw ⟨s,[],[],0⟩ hL0 ⟨lg.o,Nat.zero_le _,Or.inl (Nat.zero_le _)⟩ rfl ps Yc (fun k e=>⟨fun e2=>by
         rcases e2 with e2 | e2
         . have:=e2.2;have:=X8.o;omega
         . omega,by rw[World.size_alloc];omega⟩) rfl hpl HPz.o)
        have HX0:Hid (Iz S w gs (w.heap.size+1) wc.heap.size (.cells #[.int .i64 0,.slice none 0 0,.slice none 0 0] 88) (wc.alloc (.cells #[.pointer (some ⟨gs,0,none⟩),.slice none 0 0,.slice none 0 0] 214)) s [] [] (wc.alloc (.cells #[.pointer (some ⟨gs,0,none⟩),.slice none 0 0,.slice none 0 0] 214))):=⟨hL0.mono (fun k _ e=>Or.inl e),Turns.refl _ _,(Ve.o.stay hbL).box⟩;have HN:Hid (w.heap.size<=w.heap.size+1∧w.heap.size+1<wc.heap.size∧wc.heap.size<(wc.alloc (.cells #[.pointer (some ⟨gs,0,none⟩),.slice none 0 0,.slice none 0 0] 214)).heap.size):=⟨by omega,by have:=aaI.o;have:=hb3.size;omega,by rw[World.size_alloc];omega⟩;have HWB:=H9 hwB;have Yd:=Gt.Cm ps (r:=⟨s,[],[],0⟩) lg.o;have Ye:=Gt.ze ps ⟨s,[],[],0⟩;have aaK:=H9 Yd;have aaL:(Gt.adds ⟨s,[],[],0⟩ ps).ids.length<=1000000:=by simp at Ye;omega
        clear Ye Yd hpw Yc hwB hbL hL0 hR hbd hpp hb3 hfull RV VN Ve HPD HPz hz3 hz2;generalize Gt.adds ⟨s,[],[],0⟩ ps=ra at *;go_upto_region 10 with fail
        generalize hBB:(wc.alloc (.cells #[.pointer (some ⟨gs,0,none⟩),.slice none 0 0,.slice none 0 0] 214))=B at *;clear hBB;go_wp2_with fail
        refine HAA.o.mono ?_;rintro e w5 ⟨rfl,hL5,nD⟩;have Yf:Hid (Iz S w gs (w.heap.size+1) wc.heap.size (.cells #[.int .i64 0,.slice none 0 0,.slice none 0 0] 88) B ra.s ra.ids ra.told w5):=HX0.o.did HN.o.1 HN.o.2.1 HN.o.2.2 (hL5.mono (fun k _ e=>by
         rcases e with e | e
         . exact Or.inl (Or.inl e)
         . exact Or.inr e)) (nD.mono (fun k e=>Or.inl e))
        clear hL5 nD HAA HX0;by_cases hc0:ra.code=0
        . have tc:((ra.code:Int) != 0)=false:=by rw[hc0];rfl
          have VP:Hid (R=(Sr.sync ra.s,(201,[],ra.told))):=by unfold Hid;rw[HR.o];unfold Gt.ends;rw[if_pos hc0]
          have k0:=Yf.o.land.cell0;have CY:=H9 Yf.o.land.sync;rw[hc0];clear HR hc0 tc;go_wp2_with fail
          refine CY.o.mono ?_;rintro e w6 ⟨rfl,hL6,kD⟩;have Vl:=H9 (Yf.o.did HN.o.1 HN.o.2.1 HN.o.2.2 hL6 kD);have Zi:=H9 (LX Vl.o.land);clear hL6 kD;go_wp2_with fail
          refine Zi.o.mono ?_;rintro e w7 ⟨⟨bo7,Yg,rfl,Yh,hS7⟩,Qm⟩;obtain⟨⟨z0,z1,z2,y0,y1,y2⟩,HE⟩:=((Vl.o.bx HN.o.1 HN.o.2.1 HN.o.2.2 HWB.o).stay Qm).ends (st:=201) (fV:=201) rfl (l:=[]) (body:=ra.told) rfl (cu.nil _) (bU _ _ _) rfl Yh (fun a e=>by
           have:=HN.o;rcases hS7 a e with (h1 | h1) | h1
           . exact⟨Or.inl h1.1,by have:=h1.2;omega⟩
           . exact⟨Or.inr (by omega),by omega⟩
           . exact⟨Or.inr (by omega),by omega⟩)
          clear Yh hS7 Qm;go_wp2;generalize (((w7.setCell ⟨w.heap.size+1,0,none⟩ _).setCell ⟨w.heap.size+1,1,none⟩ _).setCell ⟨w.heap.size+1,2,none⟩ _)=wf at *;obtain⟨q0,q1,q2,q3⟩:=HE.o;refine bodyPost_ret (v:=.agg #[.int .i64 201,.slice none 0 0,.slice bo7 ra.told.length Yg]) (by simp[results,results110,go_sem,q0,q1,q2]) rfl ?_;rw[VP.o];exact q3
        . have tc:((ra.code:Int) != 0)=true:=by rw[bne_iff_ne];omega
          have VP:Hid (R=(Sr.sync (Gt.jo ra.s ra.ids),(Gt.stat ra.code,[],[]))):=by unfold Hid;rw[HR.o];unfold Gt.ends;rw[if_neg hc0]
          have HDa:=H9 (E5 Yf.o.land aaK.o aaL);have lY:=H9 (fun(W:World)=>LZ (L:=wc.heap.size) (w:=W) ra.code hc0);clear HR hc0;go_wp2_with fail
          refine HDa.o.mono ?_;rintro e w6 ⟨rfl,hL6,kD⟩;have Vl:=H9 (Yf.o.did HN.o.1 HN.o.2.1 HN.o.2.2 hL6 kD);have k0:=Vl.o.land.cell0;have CY:=H9 Vl.o.land.sync;clear hL6 kD;go_wp2_with fail
          refine CY.o.mono ?_;rintro e w7 ⟨rfl,hL7,vH⟩;have HX7:=H9 (Vl.o.did HN.o.1 HN.o.2.1 HN.o.2.2 hL7 vH);clear hL7 vH;go_wp2_with fail
          refine(lY.o _).mono ?_;rintro e w8 ⟨rfl,hb8⟩;obtain⟨⟨z0,z1,z2,y0,y1,y2⟩,HE⟩:=((HX7.o.bx HN.o.1 HN.o.2.1 HN.o.2.2 HWB.o).stay hb8).ends (st:=Gt.stat ra.code) (fV:=(Gt.stat ra.code:Int)) rfl (l:=[]) (body:=[]) rfl (cu.nil _) (bU _ _ _) rfl (aU.nil _) (bU _ _ _);clear hb8;go_wp2;generalize (((w8.setCell ⟨w.heap.size+1,0,none⟩ _).setCell ⟨w.heap.size+1,1,none⟩ _).setCell ⟨w.heap.size+1,2,none⟩ _)=wf at *;obtain⟨q0,q1,q2,q3⟩:=HE.o;refine bodyPost_ret (v:=.agg #[.int .i64 (Gt.stat ra.code:Int),.slice none 0 0,.slice none 0 0]) (by simp[results,results110,go_sem,q0,q1,q2]) rfl ?_;rw[VP.o];exact q3
end
section
variable {w w0:World} {S:Nat->Prop} {g gs:Nat} {s:Sr.Sh}
theorem SE (t:ByteArray):Tu.ours t=Gt.ours t:=rfl
theorem IB (p:oN w0 w S)(h:aN w S gs s)(ok:Sr.Ok s)(hg:w.cell? ⟨g,0,none⟩=some (.pointer (some ⟨gs,0,none⟩))){m t:ByteArray}{mi ln:Int}{l:List (ByteArray×ByteArray)}{fo:Option Addr}{ak nf:Nat}(hF:jI w l fo ak nf)(body:List UInt8){bo:Option Addr}{aj nb:Nat}(hb:body.length=nb)(hB:aU w bo aj body)(hnb:nb<=20000)(ht:t.size<=100000):
 Calls prog 66 #[.pointer (some ⟨g,0,none⟩),.agg #[.string m,.string t,.int .i64 mi,.slice fo nf ak,.int .i64 ln,.slice bo nb aj]] w fun e w'=>J4 S w gs (Gt.answer Tu.aO s m t l body) e w':=by
 obtain⟨R,hR⟩:∃R,R=Gt.answer Tu.aO s m t l body:=⟨_,rfl⟩;rw[<-hR];unfold Gt.answer at hR;obtain⟨hX,vG⟩:=uJ.start h (.cells #[.string m,.string t,.int .i64 mi,.slice fo nf ak,.int .i64 ln,.slice bo nb aj] 75) (.cells #[.int .i64 0,.slice none 0 0,.slice none 0 0] 88);have UH:g<w.heap.size:=World.block_lt_of_cell? w _ hg;have hbb:Below w.heap.size w ((w.alloc (.cells #[.string m,.string t,.int .i64 mi,.slice fo nf ak,.int .i64 ln,.slice bo nb aj] 75)).alloc (.cells #[.int .i64 0,.slice none 0 0,.slice none 0 0] 88)):=then_ ((Below.refl _ w).alloc (Nat.le_refl _) _) ((Below.refl _ _).alloc (Nat.le_refl _) _);have hs1:((w.alloc (.cells #[.string m,.string t,.int .i64 mi,.slice fo nf ak,.int .i64 ln,.slice bo nb aj] 75)).alloc (.cells #[.int .i64 0,.slice none 0 0,.slice none 0 0] 88)).heap.size=w.heap.size+2:=by simp
 have WK:=H9 (fun W=>K9 t W ht);have Ug:=H9 (fun st W=>jJ st W);go_enter func66,ntmps66;go_upto_region 1 with fail
 generalize hW1:((w.alloc (.cells #[.string m,.string t,.int .i64 mi,.slice fo nf ak,.int .i64 ln,.slice bo nb aj] 75)).alloc (.cells #[.int .i64 0,.slice none 0 0,.slice none 0 0] 88))=W1 at *;clear hW1;have a0:W1.cell? ⟨w.heap.size,0,none⟩=some (.string m):=cell_of_row W1 _ 0 _ _ _ vG;have a1:W1.cell? ⟨w.heap.size,1,none⟩=some (.string t):=cell_of_row W1 _ 1 _ _ _ vG;have a2:W1.cell? ⟨w.heap.size,2,none⟩=some (.int .i64 mi):=cell_of_row W1 _ 2 _ _ _ vG;have a3:W1.cell? ⟨w.heap.size,3,none⟩=some (.slice fo nf ak):=cell_of_row W1 _ 3 _ _ _ vG;have a4:W1.cell? ⟨w.heap.size,4,none⟩=some (.int .i64 ln):=cell_of_row W1 _ 4 _ _ _ vG;have a5:W1.cell? ⟨w.heap.size,5,none⟩=some (.slice bo nb aj):=cell_of_row W1 _ 5 _ _ _ vG;have hg1:W1.cell? ⟨g,0,none⟩=some (.pointer (some ⟨gs,0,none⟩)):=(hbb.cell (p:=⟨g,0,none⟩) UH).trans hg;have Ms:=hX.st;have hF1:=hF.stay hbb;have hB1:=hB.stay hbb;have hp1:oN w0 W1 (fun k=>av S w k∧k≠w.heap.size+1):=⟨p.pow,p.nR.trans (hbb.mono p.nR.size),fun k e=>by
  rcases e.1 with e | e
  . exact p.far k e
  . exact Nat.le_trans p.nR.size e⟩
 have HX:=H9 hX;have Bc:=H9 hs1
 clear vG hX hF hB hg h p hs1;rw[show Gt.ours t=Tu.ours t from(SE t).symm] at hR;cases ho:Tu.ours t with
 | true =>
   rw[ho,if_pos rfl] at hR;have HDo:=H9 (SA (m:=m) (t:=t) (mi:=mi) (ln:=ln) (bo:=bo) (aj:=aj) (nb:=nb) (w:=W1.drew) ⟨hp1.pow,then_ hp1.nR (aA _ _),hp1.far⟩ (Ms.stay (aA _ _)) ok (hF1.stay (aA _ _)) body hb (hB1.stay (aA _ _)) (by omega) ht);rw[ho] at WK;have HR:=H9 hR;generalize Tu.aO s m t l body=tr at *;obtain⟨s2,st2,l2⟩:=tr;clear hR ho Ms hF1 hB1 hp1 Ug;go_wp2_with fail
   refine(WK.o _).mono ?_;rintro e w1 ⟨rfl,hw⟩;subst hw;go_upto_region 2 with fail
   go_cut [] (fun wd=>∃(cB:Option Addr) (n9 aL:Nat),wd.cell? ⟨w.heap.size+1,0,none⟩=some (.int .i64 (st2:Int))∧wd.cell? ⟨w.heap.size+1,1,none⟩=some (.slice cB n9 aL)∧wd.cell? ⟨w.heap.size+1,2,none⟩=some (.slice none 0 0)∧J4 S w gs (s2,(st2,l2,[])) (.returned (.agg #[.int .i64 (st2:Int),.slice cB n9 aL,.slice none 0 0])) wd)
   case first =>
    go_region_law (first
     | (go_simp;go_at_call 30;refine HDo.o.mono ?_;rintro e w9 ⟨⟨cB,aL,n9,rfl,eU,dH⟩,dV,kZ⟩;have hX9:=(HX.o.stay (aA _ _)).did dV kZ;obtain⟨⟨z0,z1,z2,y0,y1,y2⟩,HE⟩:=hX9.ends (st:=st2) (fV:=(st2:Int)) rfl (l:=l2) (body:=[]) eU dH.lQ (fun a e=>by have h1:w1.heap.size<=a.block:=(dH.block a e).1;have:=Bc.o;exact⟨Or.inr (by omega),by omega⟩) rfl (aU.nil _) (bU _ _ _);clear eU dH dV kZ hX9))
    all_goals
     go_wp2;go_meet;exact⟨cB,n9,aL,HE.o⟩
   case rest =>
    obtain⟨cB,n9,aL,q0,q1,q2,q3⟩:=hcut;go_wp2;refine bodyPost_ret (v:=.agg #[.int .i64 (st2:Int),.slice cB n9 aL,.slice none 0 0]) (by simp[results,results66,go_sem,q0,q1,q2]) rfl ?_;rw[HR.o];exact q3
 | false =>
   rw[ho,if_neg (by simp)] at hR;rw[ho] at WK;clear ho;obtain⟨tt,Zk⟩:∃tt,(t.toList==([47,102,111,114,109]:List UInt8))=tt:=⟨_,rfl⟩;have eT:t=Gt.Tq<->tt=true:=by
    rw[<-Zk,beq_iff_eq,Lib.toList_data,ByteArray.ext_iff,<-Array.toList_inj];rfl
   obtain⟨tm,htm⟩:∃tm,(m.toList==([80,79,83,84]:List UInt8))=tm:=⟨_,rfl⟩;have eM:m=Gt.Ao<->tm=true:=by
    rw[<-htm,beq_iff_eq,Lib.toList_data,ByteArray.ext_iff,<-Array.toList_inj];rfl
   cases tt with
   | false =>
     rw[if_pos (fun e=>by have:=eT.1 e;cases this)] at hR;have HR:=H9 hR;clear hR eT eM Ms hF1 hB1 hp1 htm;go_wp2_with fail
     refine(WK.o _).mono ?_;rintro e w1 ⟨rfl,hw⟩;subst hw;go_wp2_with fail
     refine(Ug.o 404 _).mono ?_;rintro e w3 ⟨rfl,hb3⟩;obtain⟨⟨z0,z1,z2,y0,y1,y2⟩,HE⟩:=(HX.o.stay hb3).ends (st:=404) (fV:=404) rfl (l:=[]) (body:=[]) rfl (cu.nil _) (bU _ _ _) rfl (aU.nil _) (bU _ _ _);clear hb3;go_wp2;generalize (((w3.setCell ⟨w.heap.size+1,0,none⟩ _).setCell ⟨w.heap.size+1,1,none⟩ _).setCell ⟨w.heap.size+1,2,none⟩ _)=wf at *;obtain⟨q0,q1,q2,q3⟩:=HE.o;refine bodyPost_ret (v:=.agg #[.int .i64 404,.slice none 0 0,.slice none 0 0]) (by simp[results,results66,go_sem,q0,q1,q2]) rfl ?_;rw[HR.o];exact q3
   | true =>
     rw[if_neg (fun e=>e (eT.2 rfl))] at hR;clear eT;cases tm with
     | false =>
       rw[if_pos (fun e=>by have:=eM.1 e;cases this)] at hR;have HR:=H9 hR;clear hR eM Ms hF1 hB1 hp1;go_wp2_with fail
       refine(WK.o _).mono ?_;rintro e w1 ⟨rfl,hw⟩;subst hw;go_wp2_with fail
       refine(Ug.o 405 _).mono ?_;rintro e w3 ⟨rfl,hb3⟩;obtain⟨⟨z0,z1,z2,y0,y1,y2⟩,HE⟩:=(HX.o.stay hb3).ends (st:=405) (fV:=405) rfl (l:=[]) (body:=[]) rfl (cu.nil _) (bU _ _ _) rfl (aU.nil _) (bU _ _ _);clear hb3;go_wp2;generalize (((w3.setCell ⟨w.heap.size+1,0,none⟩ _).setCell ⟨w.heap.size+1,1,none⟩ _).setCell ⟨w.heap.size+1,2,none⟩ _)=wf at *;obtain⟨q0,q1,q2,q3⟩:=HE.o;refine bodyPost_ret (v:=.agg #[.int .i64 405,.slice none 0 0,.slice none 0 0]) (by simp[results,results66,go_sem,q0,q1,q2]) rfl ?_;rw[HR.o];exact q3
     | true =>
       rw[if_neg (fun e=>e (eM.2 rfl))] at hR;have HR:=H9 hR;have X5:=H9 (Ql (g:=g) (m:=m) (t:=t) (mi:=mi) (ln:=ln) hp1 Ms ok hg1 hF1 body hb hB1 hnb);generalize Gt.land s l body=tr at *;obtain⟨s2,st2,l2,b2⟩:=tr;clear hR eM Ms hF1 hB1 hp1 Ug;go_wp2_with fail
       refine(WK.o _).mono ?_;rintro e w1 ⟨rfl,hw⟩;subst hw;go_wp2_with fail
       refine X5.o.mono ?_;rintro e w9 ⟨⟨fo9,Yi,nf9,bo9,Yj,nb9,rfl,eU,hF9,VJ,iX,hf9,hb9⟩,dV,kZ⟩;have hno:∀k,av (fun k=>av S w k∧k≠w.heap.size+1) w1 k->av S w k∧k≠w.heap.size+1:=fun k e=>by
        have:=Bc.o;rcases e with e | e
        . exact e
        . exact⟨Or.inr (by omega),by omega⟩
       obtain⟨⟨z0,z1,z2,y0,y1,y2⟩,HE⟩:=(HX.o.did dV kZ).ends (st:=st2) (fV:=(st2:Int)) rfl (l:=l2) (body:=b2) eU hF9 (fun a e=>hno _ (hf9 a e)) VJ iX (fun a e=>hno _ (hb9 a e));clear eU hF9 VJ iX hf9 hb9 dV kZ hno;go_wp2;generalize (((w9.setCell ⟨w.heap.size+1,0,none⟩ _).setCell ⟨w.heap.size+1,1,none⟩ _).setCell ⟨w.heap.size+1,2,none⟩ _)=wf at *;obtain⟨q0,q1,q2,q3⟩:=HE.o;refine bodyPost_ret (v:=.agg #[.int .i64 (st2:Int),.slice fo9 nf9 Yi,.slice bo9 nb9 Yj]) (by simp[results,results66,go_sem,q0,q1,q2]) rfl ?_;rw[HR.o];exact q3
end
end Go.Proofs.YtjmndjmhjleabaaGreatDoor