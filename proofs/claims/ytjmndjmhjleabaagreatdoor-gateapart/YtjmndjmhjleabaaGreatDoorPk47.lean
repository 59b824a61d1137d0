/- Small texts, one behind the other: RfRp, RpC, RpD, GaB, GaC, GaD, GaE, GaF, GaG, GaH, GaI. -/
import Derived.Test.YtjmndjmhjleabaaGreatDoorAl
import Derived.Test.YtjmndjmhjleabaaGreatDoorAm
import Derived.Test.YtjmndjmhjleabaaGreatDoorPk24
import Derived.Test.YtjmndjmhjleabaaGreatDoorPk17
import Derived.Test.YtjmndjmhjleabaaGreatDoorPk5
import Derived.Test.YtjmndjmhjleabaaGreatDoorPk14
import Derived.Test.YtjmndjmhjleabaaGreatDoorPk10
import Derived.Deep.DeepCutAuto
import Derived.Deep.RegionHeld
import Derived.Deep.RegionHeldLaw
import Derived.Test.YtjmndjmhjleabaaGreatDoorPk8
import Derived.Test.YtjmndjmhjleabaaGreatDoorPk45
import Derived.Test.YtjmndjmhjleabaaGreatDoorPk31
import Derived.Test.YtjmndjmhjleabaaGreatDoorPk15
import Derived.Test.YtjmndjmhjleabaaGreatDoorPk43
import Derived.Test.YtjmndjmhjleabaaGreatDoorPk16
import Derived.Test.YtjmndjmhjleabaaGreatDoorPk38
import Derived.Test.YtjmndjmhjleabaaGreatDoorPk39
set_option maxHeartbeats 6400000
set_option maxRecDepth 100000
open Go.Proofs.Tryz
namespace Go.Proofs.YtjmndjmhjleabaaGreatDoor
open Go.RowKit
def Zu:ay:=⟨#[99,111,110,116,101,110,116,45,108,101,110,103,116,104]⟩
def Rp.out (st:Int)(l:au)(body:av):av×Nat:=Rp.text st l (Fd.vals Zu l).length body
inductive aek (w:World)(r:av×Nat)(e:Ending)(w':World):Prop
 | bad (c:Nat) (hc:c≠0) (he:e=.returned (.tuple #[.slice none 0 0,.int .i64 (c:Int)])) (ht:r=([],c)) (hB:aj w w')
 | ok (g cap n:Nat) (he:e=.returned (.tuple #[.slice (some ⟨g,0,none⟩) n cap,.int .i64 0])) (hn:n=r.1.length) (ht:r.2=0) (hO:Buf w' w.heap.size g cap r.1) (hB:aj w w')
theorem EF (p:ay×ay)(h:p.1.size<=2000∧p.2.size<=2000):(Rp.pI p).length<=4004:=by
 have e1:p.1.data.toList.length=p.1.size:=by rw[aO];rfl
 have e2:p.2.data.toList.length=p.2.size:=by rw[aO];rfl
 have h3:(Fd.text p.1.data.toList p.2.data.toList).1.length<=p.1.data.toList.length+2+p.2.data.toList.length:=by
  unfold Fd.text;split
  . simp
  . split
    . simp
    . split
      . simp
      . simp;omega
 unfold Rp.pI;rw[aW];simp only[aX,cu];omega
theorem BZ:∀(l:au),(∀p∈l,p.1.size<=2000∧p.2.size<=2000)->(l.flatMap Rp.pI).length<=l.length*4004
 | [],_=>by simp
 | p :: t, h => by
   have h1:=BZ t (fun q hq=>h q (by simp[hq]));have h2:=EF p (h p (by simp));rw[aV,aW,aX];omega
theorem Rp.Ip (p:ay×ay)(h:(Fd.text p.1.data.toList p.2.data.toList).2=0):∀l:au,Rp.code (l++[p])=Rp.code l
 | []=>by simp[Rp.code,h]
 | q::t=>by rw[dZ,Rp.code,Rp.code,Rp.Ip p h t]
theorem LA (l:au):Fd.vals Wy l=Fd.vals Zu l:=by
 unfold Fd.vals;rw[show Ch.lower Wy.data.toList=Ch.lower Zu.data.toList by decide]
def LB (nb:Nat):ay×ay:=(Wy,⟨(Ch.jH 8 nb).toArray⟩)
theorem Wz {nb:Nat}(h:nb<1000000000):(Fd.text (LB nb).1.data.toList (LB nb).2.data.toList).2=0:=(Rp.QH h).1
theorem WA {nb:Nat}(h:nb<1000000000):Rp.pI (LB nb)=Rp.cl++Ch.jH 8 nb++[13,10]:=by
 unfold Rp.pI;have:=(Rp.QH h).2;rw[show(LB nb).1.data.toList=Rp.nCL from rfl,show(LB nb).2.data.toList=Ch.jH 8 nb from rfl,this]
theorem Rp.SB {st:Int}{l:au}{body:av}(h:Rp.fault st l≠0):Rp.out st l body=([],Rp.fault st l):=by
 unfold Rp.fault at h ⊢;unfold Rp.out Rp.text;rw[LA] at h ⊢;split
 . rfl
 . rename_i h1;rw[if_neg h1] at h;split
   . rfl
   . rename_i h2;rw[if_neg h2] at h;split
     . rfl
     . rename_i h3;rw[if_neg h3] at h;exact absurd rfl h
theorem Rp.WB {st:Int}{l:au}{body:av}(h:Rp.fault st l=0)(hb:body.length<1000000000):Rp.word st≠[]∧l.length<16∧Rp.out st l body=if Rp.code (l++[LB body.length])≠0 then ([],Rp.code (l++[LB body.length])) else (Rp.first st++(l++[LB body.length]).flatMap Rp.pI++[13,10]++body,0):=by
 rw[Rp.Ip _ (Wz hb),List.flatMap_append];unfold Rp.fault at h;unfold Rp.out Rp.text;rw[LA] at h;by_cases h1:Rp.word st=[]
 . rw[if_pos h1] at h;cases h
 rw[if_neg h1] at h ⊢;by_cases h2:16<=l.length
 . rw[if_pos h2] at h;cases h
 rw[if_neg h2] at h ⊢;by_cases h3:(Fd.vals Zu l).length≠0
 . rw[if_pos h3] at h;cases h
 rw[if_neg h3];refine⟨h1,by omega,?_⟩;split
 . rfl
 . congr 1;simp[WA hb]
structure LC (w:World)(cs:Array Value)(T:Nat)(ls:au)(ao:ak)(iL g cap:Nat)(acc:av)(W:World):Prop where
 one:jJ w cs T W
 buf:Buf W (w.heap.size+1) g cap acc
 row:jo W ao iL ls.length (gU ls)
 apart:∀a,ao=some a->a.block≠g∧a.block<W.heap.size
theorem LC.stay {w W W':World}{cs:Array Value}{T:Nat}{ls:au}{ao:ak}{iL g cap:Nat}{acc:av}(h:LC w cs T ls ao iL g cap acc W)(hb:aj W W'):LC w cs T ls ao iL g cap acc W' :=
 ⟨h.one.stay hb,h.buf.keep hb,h.row.stay hb,fun a e=>⟨(h.apart a e).1,cB (h.apart a e).2 hb.size⟩⟩
theorem LC.grow {w W W':World}{cs:Array Value}{T:Nat}{ls:au}{ao:ak}{iL g cap g' cap':Nat}{acc acc':av}(h:LC w cs T ls ao iL g cap acc W)(hU:Buf W' (w.heap.size+1) g' cap' acc')(hT:Turns (fun k=>k=g) W W')(hg:g'=g∨g'=W.heap.size):LC w cs T ls ao iL g' cap' acc' W':=by
 have hgb:=h.buf.Ie;refine⟨h.one.turns hT (fun k e=>by omega),hU,h.row.turns hT (fun a e=>(h.apart a e).1),fun a e=>⟨fun e2=>?_,cB (h.apart a e).2 hT.size⟩⟩;obtain⟨h1,h2⟩:=h.apart a e;rcases hg with hg | hg
 . omega
 . omega
theorem Oo (w:World)(st:Int)(l:au)(fo bo:ak)(gM gK nb:Nat)(body:av)(hl:jo w fo gM l.length (gU l))(hN:l.length<=1000000)(hs:∀p∈l,p.1.size<=2000∧p.2.size<=2000)(hb:body.length=nb)(hBd:iH w bo gK body)(hnb:nb<=100000)(hP:nA w):
 Calls prog 107 #[.agg #[.int .i64 st,.slice fo l.length gM,.slice bo nb gK]] w fun e w'=>aek w (Rp.out st l body) e w':=by
 subst hb;obtain⟨j0,hj0,hy0,hy1,hy2⟩:=info_parts jO;have Hj:=H9 hj0;have M0:=H9 hy0;have M4:=H9 hy1;have M5:=H9 hy2
 obtain⟨i0,hi0,hz0,hz1,hz2⟩:=info_parts rU;have Hi:=H9 hi0;have kK:=H9 hz0;have kH:=H9 hz1;have kL:=H9 hz2
 have HV:=H9 hl;have HS:=H9 hs;have EC:=H9 hBd;have HP:=H9 hP
 have HX:Hid (∀W,jJ w #[.int .i64 st,.slice fo l.length gM,.slice bo body.length gK] 88 W->W.cell? ⟨w.heap.size,0,none⟩=some (.int .i64 st)∧W.cell? ⟨w.heap.size,1,none⟩=some (.slice fo l.length gM)∧W.cell? ⟨w.heap.size,2,none⟩=some (.slice bo body.length gK)):=fun W h=>⟨h.cell 0,h.cell 1,h.cell 2⟩;have H0:=H9 (jJ.made w #[.int .i64 st,.slice fo l.length gM,.slice bo body.length gK] 88);have HFa:=H9 (Ol _ st l fo bo gM gK body.length (hl.stay H0.o.below) hN hs);have hwl:=Rp.Kv st;clear hl hs hBd hj0 hy0 hy1 hy2 hi0 hz0 hz1 hz2 hP;obtain⟨x0,x1,x2⟩:=HX.o _ H0.o;by_cases hft:Rp.fault st l=0
 . obtain⟨hwd,h16,hout⟩:=Rp.WB (body:=body) hft (by omega);have HT:=H9 hout;rw[hft] at HFa;clear hout hft;obtain⟨hs1,hs2⟩:=Rp.Vs hwd;obtain⟨sn,rfl⟩:∃sn:Nat,st=(sn:Int):=⟨st.toNat,by omega⟩;have Zt:Hid (∀W,Calls prog 145 #[.int .i64 (sn:Int)] W fun e w'=>e=.returned (.string ⟨(Rp.word sn).toArray⟩)∧w'=W):=fun W=>ED sn W;have hwz:(⟨(Rp.word sn).toArray⟩:ay).size<=22:=by show(Rp.word sn).toArray.size<=22;rw[bM];exact hwl
   have HWd:Hid ((⟨(Rp.word sn).toArray⟩:ay).data.toList=Rp.word sn):=rfl;have HNm:Hid (∀W,jJ w #[.int .i64 (sn:Int),.slice fo l.length gM,.slice bo body.length gK] 88 W->Calls prog 122 #[.int .i64 (sn:Int)] W fun e w'=>e=.returned (.string ⟨(Ch.jH 8 sn).toArray⟩)∧aj W w'):=fun W h=>uf sn (by omega) W (HP.o.stay h.below);have WE:Hid (∀W,jJ w #[.int .i64 (sn:Int),.slice fo l.length gM,.slice bo body.length gK] 88 W->Calls prog 122 #[.int .i64 (body.length:Int)] W fun e w'=>e=.returned (.string (LB body.length).2)∧aj W w'):=fun W h=>uf body.length (by omega) W (HP.o.stay h.below);have hdl:=Ch.jX 8 sn;have hdz:(⟨(Ch.jH 8 sn).toArray⟩:ay).size<=9:=by show(Ch.jH 8 sn).toArray.size<=9;rw[bM];omega
   have HDd:Hid ((⟨(Ch.jH 8 sn).toArray⟩:ay).data.toList=Ch.jH 8 sn):=rfl;have ahL:=Ch.jX 8 body.length;have hpz:(LB body.length).2.size<=9:=by show(Ch.jH 8 body.length).toArray.size<=9;rw[bM];omega
   have HPc:Hid (∀p∈l++[LB body.length],p.1.size<=2000∧p.2.size<=2000):=fun p hp=>by
    rcases bB.1 hp with hp | hp
    . exact HS.o p hp
    . rw[bC.1 hp];exact⟨by show Wy.size<=2000;decide,by omega⟩
   have HLs:Hid ((l++[LB body.length]).length=l.length+1):=by unfold Hid;simp
   have HPV:Hid (gU (l++[LB body.length])=gU l++[.string Wy,.string (LB body.length).2]):=by unfold Hid;simp[gU,LB]
   generalize ahM:(LB body.length).2=pd at *;generalize hll:l++[LB body.length]=ls at *;clear ahM hll;generalize (⟨(Rp.word sn).toArray⟩:ay)=wd at *;generalize (⟨(Ch.jH 8 sn).toArray⟩:ay)=db at *;clear hwd hwl hdl ahL;obtain⟨z,hz⟩:∃z:ay,z=⟨#[72,84,84,80,47,49,46,49,32]⟩++db++⟨#[32]⟩++wd++⟨#[13,10]⟩:=⟨_,rfl⟩;have hzs:z.size=9+db.size+1+wd.size+2:=by rw[hz];simp only[bN];rfl
   have hzd:z.data.toList=Rp.first sn:=by rw[hz];simp only[Ch.data_append,HDd.o,HWd.o];rfl
   have hsk:=fun W=>NS (P:=prog) W z 9 31 5 (by unfold maxLen;omega) underlying9 underlying31 underlying5;obtain⟨aem,hsk⟩:=Classical.skolem.1 hsk;obtain⟨wF,hsk⟩:=Classical.skolem.1 hsk;have hcv:=fun W=>(hsk W).1;have Zv:Hid (∀W,aj W (wF W)∧Buf (wF W) W.heap.size W.heap.size (aem W) (Rp.first sn)):=fun W=>by have:=(hsk W).2;rw[hzd] at this;exact this
   obtain⟨zn,hzn⟩:∃zn,z.size=zn:=⟨_,rfl⟩;have HZl:Hid ((Rp.first sn).length=zn):=by unfold Hid;rw[<-hzd,aO];exact hzn
   have hzl:zn<=60:=by omega
   rw[hzn] at hcv;rw[hz] at hcv;clear hsk hzs hzd hz hzn;go_enter func107,ntmps107;go_wp2_with fail
   refine HFa.o.mono ?_;rintro e w1 ⟨rfl,hb1⟩;have CK:=H9 (H0.o.stay hb1);clear hb1 H0 x0 x1 x2 HFa;obtain⟨x0,x1,x2⟩:=HX.o w1 CK.o;go_upto_region 4 with fail
   go_cut [5] (fun v wc=>∃g cap,v=.slice (some ⟨g,0,none⟩) zn cap∧Buf wc (w.heap.size+1) g cap (Rp.first sn)∧jJ w #[.int .i64 (sn:Int),.slice fo l.length gM,.slice bo body.length gK] 88 wc)
   case first =>
    have HOd:=H9 (CK.o.stay (gQ _ _));have Yr:Hid (∀W,jJ w #[.int .i64 (sn:Int),.slice fo l.length gM,.slice bo body.length gK] 88 W->(wF W).cell? ⟨w.heap.size,0,none⟩=some (.int .i64 (sn:Int))):=fun W h=>(HX.o _ (h.stay (Zv.o W).1)).1;have Oq:Hid (∀W,jJ w #[.int .i64 (sn:Int),.slice fo l.length gM,.slice bo body.length gK] 88 W->Buf (wF W) (w.heap.size+1) W.heap.size (aem W) (Rp.first sn)∧jJ w #[.int .i64 (sn:Int),.slice fo l.length gM,.slice bo body.length gK] 88 (wF W)):=fun W h=>by
     have hU:=(Zv.o W).2;exact⟨⟨h.lt,hU.lt,hU.le,hU.max,hU.holds,hU.there⟩,h.stay (Zv.o W).1⟩
    go_region_held (fun W=>W.cell? ⟨w.heap.size,0,none⟩=some (.int .i64 (sn:Int))) (first | exact Yr.o _ HOd.o | go_keep) (first
     | (go_at_call 122;refine(HNm.o _ HOd.o).mono ?_;rintro e v1 ⟨rfl,hb1⟩;have Yt:=HOd.o.stay hb1;clear HOd;have HOd:=H9 Yt;have q0:=(HX.o v1 Yt).1;clear Yt hb1)
     | (go_at_call 145;refine(Zt.o _).mono ?_;rintro e v1 ⟨rfl,hv1⟩;subst hv1))
    all_goals
     (try go_wp2);go_meet;obtain⟨f1,f2⟩:=Oq.o _ HOd.o;exact⟨_,_,rfl,f1,f2⟩
   case rest =>
    obtain⟨g,cap,rfl,hU,hOc⟩:=hcut;have HU:=H9 hU;have HOc:=H9 hOc
    clear x0 x1 x2 hU hOc CK Zt HNm Zv hcv HDd HWd hwz hdz;obtain⟨x0,x1,x2⟩:=HX.o wc HOc.o;go_wp2_with fail
    refine(WE.o _ HOc.o).mono ?_;rintro e w2 ⟨rfl,hb2⟩;have BP:=H9 (HOc.o.stay hb2);have HU2:=H9 (HU.o.keep hb2)
    clear x0 x1 x2 hb2 HU HOc WE;obtain⟨x0,x1,x2⟩:=HX.o w2 BP.o;have hOb:=BP.o.stay ((fJ _ w2).alloc (aM _) (.cells #[.string ⟨#[67,111,110,116,101,110,116,45,76,101,110,103,116,104]⟩,.string pd] 111));have hUb:=HU2.o.alloc (.cells #[.string ⟨#[67,111,110,116,101,110,116,45,76,101,110,103,116,104]⟩,.string pd] 111);have y0:=prNew w2 ⟨#[67,111,110,116,101,110,116,45,76,101,110,103,116,104]⟩ pd 111 rfl 0 _ rfl;have y1:=prNew w2 ⟨#[67,111,110,116,101,110,116,45,76,101,110,103,116,104]⟩ pd 111 rfl 1 _ rfl;rw[gI,bq] at y0 y1;go_upto_region 6 with fail
    have hgw:=HU2.o.lt;have CO:Hid (g<(w2.alloc (.cells #[.string ⟨#[67,111,110,116,101,110,116,45,76,101,110,103,116,104]⟩,.string pd] 111)).heap.size):=hUb.lt;clear x0 x1 x2 HU2 BP hgw;generalize (w2.alloc (.cells #[.string ⟨#[67,111,110,116,101,110,116,45,76,101,110,103,116,104]⟩,.string pd] 111))=wb at *;generalize w2.heap.size=k2 at *;obtain⟨x0,x1,x2⟩:=HX.o wb hOb;have HOb:=H9 hOb;have HUb:=H9 hUb
    have Ap:Hid (∀W,aj wb W->W.cell? ⟨w.heap.size,1,none⟩=some (.slice fo l.length gM)∧W.cell? ⟨k2,0,none⟩=some (.string ⟨#[67,111,110,116,101,110,116,45,76,101,110,103,116,104]⟩)∧W.cell? ⟨k2,1,none⟩=some (.string pd)):=fun W hW =>
     ⟨(hW.cell (gq wb _ x1)).trans x1,(hW.cell (gq wb _ y0)).trans y0,(hW.cell (gq wb _ y1)).trans y1⟩
    have Am:=H9 (fun W (hW:aj wb W)=>CJ l fo gM l.length W (HV.o.stay (then_ hOb.below hW)) rfl hN);clear hOb hUb x0 x2;go_cut [37,38,39] (fun v37 v38 v39 wd=>∃gf SC,v37=.slice (some ⟨gf,0,none⟩) (l.length+1) SC∧v38=.int .i64 ((l.length:Int)+1)∧v39=.int .i64 0∧gV wd 0 111 2 (some ⟨gf,0,none⟩) SC (l.length+1) (gU l++[.string ⟨#[67,111,110,116,101,110,116,45,76,101,110,103,116,104]⟩,.string pd])∧wb.heap.size<=gf∧aj wb wd)
    case first =>
     have abU:Hid (aj wb wb.drew):=gQ _ _;have abV:Hid (aj wb (wb.alloc (.cells #[.string ⟨#[67,111,110,116,101,110,116,45,76,101,110,103,116,104]⟩,.string pd] 111)).drew):=((fJ _ _).alloc (aM _) _).trans (gQ _ _);have Zw:Hid (l.length+1<=maxLen∧(l.length+1)*32<=140737488355328):=⟨by unfold maxLen;omega,by omega⟩;have HAt:Hid (∀(W:World) (ao:ak) (cp g6:Nat),gV W wb.heap.size 111 2 ao cp l.length (gU l)->∀k,wb.heap.size<=k->((Value.slice ao l.length cp).ownBlock=some g6∨g6=k)->wb.heap.size<=g6):=fun W ao cp g6 hO k hk h=>by
      rcases h with h | h
      . rw[gP] at h;cases ao with
        | none=>cases h
        | some a=>injection h with h;subst h;exact(hO.block a rfl).1
      . omega
     go_region_held_law (fun w'=>w'.cell? ⟨w.heap.size,1,none⟩=some (.slice fo l.length gM)∧w'.cell? ⟨k2,0,none⟩=some (.string ⟨#[67,111,110,116,101,110,116,45,76,101,110,103,116,104]⟩)∧w'.cell? ⟨k2,1,none⟩=some (.string pd)) (first | go_keep | exact HK6.o | exact HK5.o | exact HKA.o) (first
      | (refine step_append_lies _ (by rfl) _ _ _ (by rfl) 0 111 i0 (.agg #[.string ⟨#[]⟩,.string ⟨#[]⟩]) 2 32 underlying66 Hi.o kK.o kH.o kL.o (by rfl) (by decide) (.slice CF l.length cap5) l.length (gU l) (by rfl) ((tH.o.mono (aA _)).alloc _) ⟨w5.heap.size,0,none⟩ 1 1 [.string ⟨#[67,111,110,116,101,110,116,45,76,101,110,103,116,104]⟩,.string pd] (by rfl) (by rfl) (prNew _ _ _ _ rfl) (NY _ _) (by decide) Zw.o.1 Zw.o.2 (aA _) (w5.heap.size+1) (by simp) ?_;intro g6 cap6 w6 hown6 hgrow wO abW;have yu:=H9 hown6;have vP:=H9 (Qy (qY.o.trans ((fJ _ _).alloc qY.o.size _)) tH.o hgrow (aM _));have Yu:=H9 (HAt.o _ _ _ g6 tH.o _ (Nat.le_succ_of_le qY.o.size) wO);have HK6:=H9 (Ap.o w6 vP.o);clear hown6 hgrow wO abW;(try simp only[Act.put,List.getElem_toArray,List.getElem_cons_succ,List.getElem_cons_zero,List.setIfInBounds_toArray,eu,List.set_cons_succ]))
      | (refine step_append_lies _ (by rfl) _ _ _ (by rfl) 0 111 i0 (.agg #[.string ⟨#[]⟩,.string ⟨#[]⟩]) 2 32 underlying66 Hi.o kK.o kH.o kL.o (by rfl) (by decide) (.slice CF l.length cap5) l.length (gU l) (by rfl) (tH.o.mono (aA _)) ⟨wb.heap.size,0,none⟩ 1 1 [.string ⟨#[67,111,110,116,101,110,116,45,76,101,110,103,116,104]⟩,.string pd] (by rfl) (by rfl) HNB.o (NY _ _) (by decide) Zw.o.1 Zw.o.2 (aA _) w5.heap.size (by rfl) ?_;intro g6 cap6 w6 hown6 hgrow wO abW;have yu:=H9 hown6;have vP:=H9 (Qy (qY.o) tH.o hgrow (aM _));have Yu:=H9 (HAt.o _ _ _ g6 tH.o _ qY.o.size wO);have HK6:=H9 (Ap.o w6 vP.o);clear hown6 hgrow wO abW;(try simp only[Act.put,List.getElem_toArray,List.getElem_cons_succ,List.getElem_cons_zero,List.setIfInBounds_toArray,eu,List.set_cons_succ]))
      | (go_at_call 146;refine(Am.o _ abV.o).mono ?_;rintro e w5 ⟨CF,cap5,rfl,EA,A9⟩;have tH:=H9 (EA.mono abV.o.size);have qY:=H9 (abV.o.trans (A9.mono (by simp)));have HK5:=H9 (Ap.o w5 qY.o);have HNB:=H9 (aec A9);clear EA A9)
      | (go_at_call 146;refine(Am.o _ abU.o).mono ?_;rintro e w5 ⟨CF,cap5,rfl,EA,A9⟩;have tH:=H9 (EA.mono abU.o.size);have qY:=H9 (abU.o.trans (A9.mono (aM _)));have HK5:=H9 (Ap.o w5 qY.o);have HKA:=H9 (Ap.o _ (qY.o.trans ((fJ _ w5).alloc qY.o.size (.cells #[.string ⟨#[67,111,110,116,101,110,116,45,76,101,110,103,116,104]⟩,.string pd] 111))));clear EA A9))
     all_goals (go_wp2;go_meet;exact⟨g6,cap6,rfl,rfl,rfl,yu.o,Yu.o,vP.o⟩)
    case rest =>
     obtain⟨gf,SC,rfl,rfl,rfl,vI,Ot,hB6⟩:=hcut;have hrow:jo wc (some ⟨gf,0,none⟩) SC (l.length+1) (gU ls):=by rw[HPV.o];exact vI.nQ
     have J7:Hid (LC w #[.int .i64 (sn:Int),.slice fo l.length gM,.slice bo body.length gK] 88 ls (some ⟨gf,0,none⟩) SC g cap (Rp.first sn) wc) :=
      ⟨HOb.o.stay hB6,HUb.o.keep hB6,by rw[HLs.o];exact hrow,fun a e=>by injection e with e;subst e;exact⟨by have:=CO.o;show gf≠g;omega,(vI.block _ rfl).2⟩⟩
     clear vI Ot hB6 hrow Ap Am HOb HUb y0 y1 x1 CO;go_wp2;go_loopw [5,39] (fun vo vi wr=>∃(i n g cap:Nat),i<=l.length+1∧vi=.int .i64 i∧vo=.slice (some ⟨g,0,none⟩) n cap∧(Rp.first sn++(ls.take i).flatMap Rp.pI).length=n∧(∀p∈ls.take i,(Fd.text p.1.data.toList p.2.data.toList).2=0)∧LC w #[.int .i64 (sn:Int),.slice fo l.length gM,.slice bo body.length gK] 88 ls (some ⟨gf,0,none⟩) SC g cap (Rp.first sn++(ls.take i).flatMap Rp.pI) wr) (fun _ vi _=>l.length+1-(intOf vi).toNat)
     case atStart=>exact⟨0,_,_,_,aA _,rfl,rfl,by simpa using HZl.o,fun p hp=>by simp at hp,by simpa using J7.o⟩
     case round =>
      obtain⟨i,n,g,cap,hi,rfl,rfl,hn,Ca,hR⟩:=hrel;have HR:=H9 hR;have WG:=H9 hn;have HZr:=H9 Ca
      have hnl:n<=200000:=by
       have h2:=BZ (ls.take i) (fun p hp=>HPc.o p (List.mem_of_mem_take hp));have h3:(ls.take i).length<=16:=by rw[bY,HLs.o];omega
       rw[aW,HZl.o] at hn;omega
      clear hR J7 hn Ca;obtain⟨x0,x1,x2⟩:=HX.o wr HR.o.one;by_cases hlt:i<l.length+1
      . have hlt':(i:Int)<(l.length:Int)+1:=by omega
        have hiF:i<ls.length:=by rw[HLs.o];exact hlt
        have hp1:=HR.o.row.cell (nY ls i hiF).1;have hp2:=HR.o.row.cell (nY ls i hiF).2;rw[gI,bq] at hp1 hp2;have hfc:=HR.o.row.1;rw[HLs.o] at hfc;have hps:=HPc.o ls[i] (aC hiF);have tF:Hid (ls.take (i+1)=ls.take i++[ls[i]]):=bO hiF;have uV:Hid ((Fd.text ls[i].1.data.toList ls[i].2.data.toList).2≠0->Rp.code ls=(Fd.text ls[i].1.data.toList ls[i].2.data.toList).2):=fun hc=>Rp.Kw ls i hiF HZr.o hc;generalize ls[i]=p at *;have uy:=H9 (WC p.1 p.2 (wr.alloc (.cells #[.string p.1,.string p.2] 111)) (by omega) (by omega));have hll:=EF p hps;have Zx:Hid (Rp.pI p=(Fd.text p.1.data.toList p.2.data.toList).1++[13,10]):=rfl;have HBx:Hid (aj wr (wr.alloc (.cells #[.string p.1,.string p.2] 111))):=(fJ _ _).alloc (aM _) _;unfold rQ at uy;generalize hcd:(Fd.text p.1.data.toList p.2.data.toList).2=cd at *;generalize (Fd.text p.1.data.toList p.2.data.toList).1=tx at *;have HCd:=H9 hcd;clear hps hiF hcd;by_cases hc0:cd=0
        . subst hc0;have hxz:((⟨tx.toArray⟩:ay)++⟨#[13,10]⟩:ay).size=tx.length+2:=by rw[bN];rfl
          have hxd:((⟨tx.toArray⟩:ay)++⟨#[13,10]⟩:ay).data.toList=tx++[13,10]:=by rw[Ch.data_append]
          have hxl:tx.length+2<=4004:=by
           have:=Zx.o;rw[this,aW] at hll;simpa using hll
          have HXz:=H9 hxz;have HXd:=H9 hxd
          clear hxz hxd hll;go_wp2_with fail
          refine uy.o.mono ?_;rintro e w5 ⟨rfl,hb5⟩;have SE:=H9 (HR.o.stay (HBx.o.trans (hb5.mono (by simp))));clear hb5 x0 x1 x2 uy;go_wp2_with (at_builtin;refine mP rfl (.tmp 51) (.tmp 53) 31 9 rfl 5 j0 underlying31 Hj.o M0.o M4.o M5.o rfl SE.o.buf WG.o _ _ rfl (Ee underlying9 _ _) (by rw[HXz.o];omega) ?_;intro g7 Jv w7 hU7 Cb hg7;have HR7:=H9 (SE.o.grow hU7 Cb hg7);clear hU7 Cb hg7)
          go_roundw
          case rel =>
           have hlc:Rp.first sn++(ls.take i).flatMap Rp.pI++((⟨tx.toArray⟩:ay)++⟨#[13,10]⟩:ay).data.toList=Rp.first sn++(ls.take (i+1)).flatMap Rp.pI:=by
            rw[tF.o,List.flatMap_append,HXd.o,dU];congr 2;simp[Zx.o]
           refine⟨i+1,_,g7,Jv,by omega,by go_num,rfl,?_,?_,by rw[<-hlc];exact HR7.o⟩
           . rw[<-hlc,aW,WG.o,HXd.o];simp
           . intro q hq;rw[tF.o] at hq;rcases bB.1 hq with hq | hq
             . exact HZr.o q hq
             . simp at hq;subst hq;exact HCd.o
          case measure=>simp[intOf];omega
        . have tc:((cd:Int) != 0)=true:=by rw[cZ];omega
          have Ou:=H9 (uV.o hc0);have M6:=H9 hc0
          clear hc0 hll;go_wp2_with fail
          refine uy.o.mono ?_;rintro e w5 ⟨rfl,hb5⟩;have SE:=H9 (HR.o.stay (HBx.o.trans (hb5.mono (by simp))));clear hb5 x0 x1 x2 uy;go_wp2;(try simp only[Exit.inBlock,Exit.then]);go_ret2;refine .bad cd M6.o rfl ?_ SE.o.one.below;rw[HT.o,Ou.o,if_pos M6.o]
      . obtain rfl:i=l.length+1:=by omega
        have HXe:Hid (Rp.out sn l body=(Rp.first sn++(ls.take (l.length+1)).flatMap Rp.pI++[13,10]++body,0)):=by
         have htl:ls.take (l.length+1)=ls:=by rw[<-HLs.o];exact bP
         have hz:=HZr.o;rw[htl] at hz;unfold Hid;rw[HT.o,Rp.GX ls hz,if_neg (by simp),htl]
        clear HT;go_wp2_with (first
         | (at_builtin;refine mP rfl (.tmp 56) (.const (.string ⟨#[13,10]⟩)) 31 9 rfl 5 j0 underlying31 Hj.o M0.o M4.o M5.o rfl HR.o.buf WG.o _ _ rfl (Ee underlying9 _ _) (by show n+2<=_;omega) ?_;intro g7 Jv w7 hU7 Cb hg7;have UM:=HR.o.grow hU7 Cb hg7;have HR7:=H9 UM;have ahR:=H9 (EC.o.stay UM.one.below);have z2:=(HX.o w7 UM.one).2.2;clear hU7 Cb hg7 UM)
         | (at_builtin;refine mP rfl (.tmp 58) (.tmp 60) 31 31 rfl 5 j0 underlying31 Hj.o M0.o M4.o M5.o rfl HR7.o.buf (by rw[aW,WG.o];rfl) _ _ rfl (Om underlying31 ahR.o rfl) (by omega) ?_;intro g8 ahS w8 hU8 hT8 hg8;have HR8:=H9 (HR7.o.grow hU8 hT8 hg8);clear hU8 hT8 hg8))
        go_ret2;have hU:=HR8.o.buf;refine .ok g8 ahS _ rfl ?_ (by rw[HXe.o]) (by rw[HXe.o];exact⟨by have:=hU.Ie;omega,hU.lt,hU.le,hU.max,hU.holds,hU.there⟩) HR8.o.one.below;rw[HXe.o];show _=(Rp.first sn++(ls.take (l.length+1)).flatMap Rp.pI++[13,10]++body).length;rw[aW,aW,WG.o];rfl
 . have HF:=H9 (Rp.SB (body:=body) hft);have tc:(((Rp.fault st l:Nat):Int) != 0)=true:=by rw[cZ];omega
   have HN0:=H9 hft;generalize Rp.fault st l=fc at *;clear hft;go_enter func107,ntmps107;go_wp2_with fail
   refine HFa.o.mono ?_;rintro e w1 ⟨rfl,hb1⟩;have CK:=H9 (H0.o.stay hb1);clear hb1 H0 x0 x1 x2;go_wp2;go_ret2;exact .bad fc HN0.o rfl HF.o CK.o.below
theorem pY (st:Int)(w:World):Calls prog 109 #[.int .i64 st] w fun e w'=>e=.returned (.agg #[.int .i64 st,.slice none 0 0,.slice none 0 0])∧aj w w':=by
 go_enter func109,ntmps109;go_wp2;refine gy (v:=.agg #[.int .i64 st,.slice none 0 0,.slice none 0 0]) (by simp[results,results109,go_sem]) rfl ⟨rfl,?_⟩;exact(fJ _ _).alloc (aM _) _
theorem EG {W:World}{b:Nat}{x0 x1 x2:Value}(h:W.heap[b]? = some (.cells #[x0,x1,x2] 88 (0,0)))(y0 y1 y2:Value):
 (W.cell? ⟨b,0,none⟩=some x0∧W.cell? ⟨b,1,none⟩=some x1∧W.cell? ⟨b,2,none⟩=some x2∧W.frozen? ⟨b,0,none⟩=false∧W.frozen? ⟨b,1,none⟩=false∧W.frozen? ⟨b,2,none⟩=false) ∧
 Hid ((((W.setCell ⟨b,0,none⟩ y0).setCell ⟨b,1,none⟩ y1).setCell ⟨b,2,none⟩ y2).cell? ⟨b,0,none⟩=some y0∧(((W.setCell ⟨b,0,none⟩ y0).setCell ⟨b,1,none⟩ y1).setCell ⟨b,2,none⟩ y2).cell? ⟨b,1,none⟩=some y1∧(((W.setCell ⟨b,0,none⟩ y0).setCell ⟨b,1,none⟩ y1).setCell ⟨b,2,none⟩ y2).cell? ⟨b,2,none⟩=some y2∧Turns (fun k=>k=b) W (((W.setCell ⟨b,0,none⟩ y0).setCell ⟨b,1,none⟩ y1).setCell ⟨b,2,none⟩ y2)):=by
 have r2:=fO _ b 2 _ _ y2 (fO _ b 1 _ _ y1 (fO W b 0 _ _ y0 h));exact⟨⟨fK W _ 0 _ _ _ h,fK W _ 1 _ _ _ h,fK W _ 2 _ _ _ h,fM W _ 0 _ _ h,fM W _ 1 _ _ h,fM W _ 2 _ _ h⟩,fK _ _ 0 _ _ _ r2,fK _ _ 1 _ _ _ r2,fK _ _ 2 _ _ _ r2,ig b [y0,y1,y2] 0 W⟩
theorem uW (k:Int)(w:World):Calls prog 26 #[.int .i64 k] w fun e w'=>e=.returned (.bool (decide (0<=k)&&decide (k<4)))∧w'=w:=by
 by_cases h:0<=k
 . have t:decide (k≥0)=true:=aI h;rw[aI h,Bool.true_and];go_enter func26,ntmps26;go_wp2;go_ret;exact⟨rfl,rfl⟩
 . have t:decide (k≥0)=false:=aJ h;rw[aJ h,Bool.false_and];go_enter func26,ntmps26;go_wp2;go_ret;exact⟨rfl,rfl⟩
theorem Ov (c:Nat)(w:World):Calls prog 67 #[.int .i64 (c:Int)] w fun e w'=>e=.returned (.agg #[.int .i64 ((Gt.sK c).1:Int),.slice none 0 0,.slice none 0 0])∧aj w w':=by
 have H1:=H9 (fun W=>pY 413 W);have H2:=H9 (fun W=>pY 400 W);by_cases h:c=4
 . subst h;go_enter func67,ntmps67;go_wp2_with fail
   refine(H1.o _).mono ?_;rintro e w1 ⟨rfl,hb⟩;obtain⟨⟨z0,z1,z2,y0,y1,y2⟩,HE⟩:=EG ((hb.block w.heap.size (by simp)).trans (fI w _)) (.int .i64 413) (.slice none 0 0) (.slice none 0 0);have HB:=H9 (then_ ((fJ _ w).alloc (aM _) _) hb);clear hb;go_wp2;generalize (((w1.setCell ⟨w.heap.size,0,none⟩ _).setCell ⟨w.heap.size,1,none⟩ _).setCell ⟨w.heap.size,2,none⟩ _)=wf at *;obtain⟨q0,q1,q2,q3⟩:=HE.o;refine gy (v:=.agg #[.int .i64 413,.slice none 0 0,.slice none 0 0]) (by simp[results,results67,go_sem,q0,q1,q2]) rfl ⟨rfl,HB.o.trans (q3.below (fun k e=>by omega) HB.o.size)⟩
 . have t:((c:Int)==4)=false:=aS.2 (by omega);have hf:(Gt.sK c).1=400:=by unfold Gt.sK;simp[h]
   rw[hf];go_enter func67,ntmps67;go_wp2_with fail
   refine(H2.o _).mono ?_;rintro e w1 ⟨rfl,hb⟩;obtain⟨⟨z0,z1,z2,y0,y1,y2⟩,HE⟩:=EG ((hb.block w.heap.size (by simp)).trans (fI w _)) (.int .i64 400) (.slice none 0 0) (.slice none 0 0);have HB:=H9 (then_ ((fJ _ w).alloc (aM _) _) hb);clear hb;go_wp2;generalize (((w1.setCell ⟨w.heap.size,0,none⟩ _).setCell ⟨w.heap.size,1,none⟩ _).setCell ⟨w.heap.size,2,none⟩ _)=wf at *;obtain⟨q0,q1,q2,q3⟩:=HE.o;refine gy (v:=.agg #[.int .i64 400,.slice none 0 0,.slice none 0 0]) (by simp[results,results67,go_sem,q0,q1,q2]) rfl ⟨rfl,HB.o.trans (q3.below (fun k e=>by omega) HB.o.size)⟩
theorem kR.ahU {w:World}{g gs:Nat}{v:Nat->List Value}(h:kR w g gs v){k:Nat}(hk:k<4){a0 a1 a2 a3 a4 a5 a6:Value}(hv:v k=[a0,a1,a2,a3,a4,a5,a6]){o:Nat}(ho:1+k*7=o)(y1 y2 y3 y4 y5 y6:Value):
 kR ((((((w.setCell ⟨g,o+1,none⟩ y1).setCell ⟨g,o+2,none⟩ y2).setCell ⟨g,o+3,none⟩ y3).setCell ⟨g,o+4,none⟩ y4).setCell ⟨g,o+5,none⟩ y5).setCell ⟨g,o+6,none⟩ y6) g gs (upd v k [a0,y1,y2,y3,y4,y5,y6])∧Turns (fun i=>i=g) w ((((((w.setCell ⟨g,o+1,none⟩ y1).setCell ⟨g,o+2,none⟩ y2).setCell ⟨g,o+3,none⟩ y3).setCell ⟨g,o+4,none⟩ y4).setCell ⟨g,o+5,none⟩ y5).setCell ⟨g,o+6,none⟩ y6):=by
 subst ho;refine⟨?_,ig g [y1,y2,y3,y4,y5,y6] (1+k*7+1) w⟩;have:=(((((h.set hk (j:=1) (by decide) y1).set hk (j:=2) (by decide) y2).set hk (j:=3) (by decide) y3).set hk (j:=4) (by decide) y4).set hk (j:=5) (by decide) y5).set hk (j:=6) (by decide) y6;simp only[qH,iQ,hv] at this;exact this
theorem Ba {w:World}{g gs:Nat}{v:Nat->List Value}(h:kR w g gs v){k:Nat}(hk:k<4){a0:Value}{m t:ay}{mi ln:Int}{fo bo:ak}{nf gM nb gK:Nat}(hv:v k=[a0,.string m,.string t,.int .i64 mi,.slice fo nf gM,.int .i64 ln,.slice bo nb gK]):
 Calls prog 27 #[.pointer (some ⟨g,1+k*7,none⟩)] w fun e w'=>e=.returned (.agg #[.string m,.string t,.int .i64 mi,.slice fo nf gM,.int .i64 ln,.slice bo nb gK])∧kR w' g gs (upd v k [a0,.string ⟨#[]⟩,.string ⟨#[]⟩,.int .i64 0,.slice none 0 0,.int .i64 0,.slice none 0 0])∧Turns (fun i=>i=g) w w':=by
 have c1:=h.at_ hk (j:=1) (by decide) (u:=.string m) (by rw[hv];rfl);have c2:=h.at_ hk (j:=2) (by decide) (u:=.string t) (by rw[hv];rfl);have c3:=h.at_ hk (j:=3) (by decide) (u:=.int .i64 mi) (by rw[hv];rfl);have c4:=h.at_ hk (j:=4) (by decide) (u:=.slice fo nf gM) (by rw[hv];rfl);have c5:=h.at_ hk (j:=5) (by decide) (u:=.int .i64 ln) (by rw[hv];rfl);have c6:=h.at_ hk (j:=6) (by decide) (u:=.slice bo nb gK) (by rw[hv];rfl);have f1:=h.fz (1+k*7+1);have f2:=h.fz (1+k*7+2);have f3:=h.fz (1+k*7+3);have f4:=h.fz (1+k*7+4);have f5:=h.fz (1+k*7+5);have f6:=h.fz (1+k*7+6)
 have hlt:=h.lt;have HH:=H9 h;clear h;obtain⟨o,ho⟩:∃o,1+k*7=o:=⟨_,rfl⟩;rw[ho] at c1 c2 c3 c4 c5 c6 f1 f2 f3 f4 f5 f6 ⊢;have HO:=H9 ho;clear ho;go_enter func27,ntmps27;go_wp2;have HS:=HH.o.ahU hk hv HO.o (.string ⟨#[]⟩) (.string ⟨#[]⟩) (.int .i64 0) (.slice none 0 0) (.int .i64 0) (.slice none 0 0);change bodyPost _ _ _ _ _ (World.alloc (World.alloc (((((((w.setCell ⟨g,o+1,none⟩ (.string ⟨#[]⟩)).setCell ⟨g,o+2,none⟩ (.string ⟨#[]⟩)).setCell ⟨g,o+3,none⟩ (.int .i64 0)).setCell ⟨g,o+4,none⟩ (.slice none 0 0)).setCell ⟨g,o+5,none⟩ (.int .i64 0)).setCell ⟨g,o+6,none⟩ (.slice none 0 0))) _) _);have hz:((((((w.setCell ⟨g,o+1,none⟩ (.string ⟨#[]⟩)).setCell ⟨g,o+2,none⟩ (.string ⟨#[]⟩)).setCell ⟨g,o+3,none⟩ (.int .i64 0)).setCell ⟨g,o+4,none⟩ (.slice none 0 0)).setCell ⟨g,o+5,none⟩ (.int .i64 0)).setCell ⟨g,o+6,none⟩ (.slice none 0 0)).heap.size=w.heap.size:=by simp
 generalize ((((((w.setCell ⟨g,o+1,none⟩ (.string ⟨#[]⟩)).setCell ⟨g,o+2,none⟩ (.string ⟨#[]⟩)).setCell ⟨g,o+3,none⟩ (.int .i64 0)).setCell ⟨g,o+4,none⟩ (.slice none 0 0)).setCell ⟨g,o+5,none⟩ (.int .i64 0)).setCell ⟨g,o+6,none⟩ (.slice none 0 0))=wf at *;obtain⟨h1,h2⟩:=HS;have hb:aj wf ((wf.alloc (.cells #[.string m,.string t,.int .i64 mi,.slice fo nf gM,.int .i64 ln,.slice bo nb gK] 75)).alloc (.cells #[.string m,.string t,.int .i64 mi,.slice fo nf gM,.int .i64 ln,.slice bo nb gK] 75)):=then_ ((fJ _ _).alloc (aM _) _) ((fJ _ _).alloc (aM _) _);refine gy (v:=.agg #[.string m,.string t,.int .i64 mi,.slice fo nf gM,.int .i64 ln,.slice bo nb gK]) (by rw[<-hz];simp[results,results27,go_sem]) rfl ⟨rfl,⟨(hb.block g h1.lt).trans h1.row,h1.seven⟩,h2.trans (Turns.of_below (S:=fun _=>False) hb) (fun _ e _=>e.elim)⟩
theorem Cc (w:World):Calls prog 28 #[] w fun e w'=>∃gp,e=.returned (.agg #[.pointer (some ⟨gp,0,none⟩),.string ⟨#[]⟩,.string ⟨#[]⟩,.int .i64 0,.slice none 0 0,.int .i64 0,.slice none 0 0])∧jI w' (fun k=>w.heap.size<=k) gp Rq.start∧aj w w':=by
 have H1:=H9 (fun W=>NR W);go_enter func28,ntmps28;go_wp2_with fail
 refine(H1.o _).mono ?_;rintro e w1 ⟨gp,rfl,hR,hb⟩;have hr:=(hb.block w.heap.size (by simp)).trans (fI w _);have c0:=fK w1 _ 0 _ _ _ hr;have c1:=fK w1 _ 1 _ _ _ hr;have c2:=fK w1 _ 2 _ _ _ hr;have c3:=fK w1 _ 3 _ _ _ hr;have c4:=fK w1 _ 4 _ _ _ hr;have c5:=fK w1 _ 5 _ _ _ hr;have c6:=fK w1 _ 6 _ _ _ hr
 have f0:=fun j=>fM w1 _ j _ _ hr;have HB:=H9 (then_ ((fJ _ w).alloc (aM _) _) hb);have HR:Hid (jI w1 (fun k=>w.heap.size+1<=k) gp Rq.start):=hR.mono (fun k _ e=>by rw[fZ] at e;exact e);have nX:=H9 hr;clear hR hb hr;go_wp2;have hT:Turns (fun k=>k=w.heap.size) w1 (((((((w1.setCell ⟨w.heap.size,0,none⟩ (.pointer (some ⟨gp,0,none⟩))).setCell ⟨w.heap.size,1,none⟩ (.string ⟨#[]⟩)).setCell ⟨w.heap.size,2,none⟩ (.string ⟨#[]⟩)).setCell ⟨w.heap.size,3,none⟩ (.int .i64 0)).setCell ⟨w.heap.size,4,none⟩ (.slice none 0 0)).setCell ⟨w.heap.size,5,none⟩ (.int .i64 0)).setCell ⟨w.heap.size,6,none⟩ (.slice none 0 0)):=ig w.heap.size [.pointer (some ⟨gp,0,none⟩),.string ⟨#[]⟩,.string ⟨#[]⟩,.int .i64 0,.slice none 0 0,.int .i64 0,.slice none 0 0] 0 w1;have hr:=fO _ _ 6 _ _ (.slice none 0 0) (fO _ _ 5 _ _ (.int .i64 0) (fO _ _ 4 _ _ (.slice none 0 0) (fO _ _ 3 _ _ (.int .i64 0) (fO _ _ 2 _ _ (.string ⟨#[]⟩) (fO _ _ 1 _ _ (.string ⟨#[]⟩) (fO w1 w.heap.size 0 _ _ (.pointer (some ⟨gp,0,none⟩)) nX.o))))));generalize (((((((w1.setCell ⟨w.heap.size,0,none⟩ (.pointer (some ⟨gp,0,none⟩))).setCell ⟨w.heap.size,1,none⟩ (.string ⟨#[]⟩)).setCell ⟨w.heap.size,2,none⟩ (.string ⟨#[]⟩)).setCell ⟨w.heap.size,3,none⟩ (.int .i64 0)).setCell ⟨w.heap.size,4,none⟩ (.slice none 0 0)).setCell ⟨w.heap.size,5,none⟩ (.int .i64 0)).setCell ⟨w.heap.size,6,none⟩ (.slice none 0 0))=wf at *;have d0:=fK wf _ 0 _ _ _ hr;have d1:=fK wf _ 1 _ _ _ hr;have d2:=fK wf _ 2 _ _ _ hr;have d3:=fK wf _ 3 _ _ _ hr;have d4:=fK wf _ 4 _ _ _ hr;have d5:=fK wf _ 5 _ _ _ hr;have d6:=fK wf _ 6 _ _ _ hr
 simp at d0 d1 d2 d3 d4 d5 d6;refine gy (v:=.agg #[.pointer (some ⟨gp,0,none⟩),.string ⟨#[]⟩,.string ⟨#[]⟩,.int .i64 0,.slice none 0 0,.int .i64 0,.slice none 0 0]) (by simp[results,results28,go_sem,d0,d1,d2,d3,d4,d5,d6]) rfl ⟨gp,rfl,?_,HB.o.trans (hT.below (fun k e=>by omega) HB.o.size)⟩;exact(HR.o.turns hT (fun k e e2=>by omega)).mono (fun k _ e=>by omega)
theorem LD (m t:ay)(mi ln:Int)(fo bo:ak)(nf gM nb gK:Nat)(w:World)(ht:t.size<=100000):Calls prog 29 #[.agg #[.string m,.string t,.int .i64 mi,.slice fo nf gM,.int .i64 ln,.slice bo nb gK]] w fun e w'=>e=.returned (.bool (decide (m=Gt.ND)&&Gt.Jf t))∧aj w w':=by
 have H1:=H9 (fun W=>BU t W ht);have hb:=(fJ _ w).alloc (aM _) (.cells #[.string m,.string t,.int .i64 mi,.slice fo nf gM,.int .i64 ln,.slice bo nb gK] 75);have HB:=H9 hb;clear hb;by_cases h:m=Gt.ND
 . have tb:(m.toList==[80,65,84,67,72])=true:=by rw[aT,Lib.toList_data,h];rfl
   rw[aI h,Bool.true_and];clear h;go_enter func29,ntmps29;go_wp2_with fail
   refine(H1.o _).mono ?_;rintro e w1 ⟨rfl,hw⟩;subst hw;go_wp2;go_ret;exact⟨rfl,HB.o⟩
 . have tb:(m.toList==[80,65,84,67,72])=false:=by
    rw[aS,Lib.toList_data];intro e;exact h (by rw[ByteArray.ext_iff,<-fH,e];rfl)
   rw[aJ h,Bool.false_and];clear h;go_enter func29,ntmps29;go_wp2;go_ret;exact⟨rfl,HB.o⟩
structure aep (w:World)(l:av)(e:Ending)(w':World):Prop where
 ret:∃(ao:ak) (cap n:Nat),e=.returned (.slice ao n cap)∧n=l.length∧iH w' ao cap l
 vN:aj w w'
theorem Iq (w:World)(r:Gt.zk)(fo bo:ak)(nf gM nb gK:Nat)(hs:Gt.Small r)(hn:r.2.1.length=nf)(hF:jo w fo gM nf (gU r.2.1))(hm:r.2.2.length=nb)(hB:iH w bo gK r.2.2)(hP:nA w):
 Calls prog 65 #[.agg #[.int .i64 (r.1:Int),.slice fo nf gM,.slice bo nb gK]] w fun e w'=>aep w (Gt.textOf r) e w':=by
 subst hn;have hb:=(fJ _ w).alloc (aM _) (.cells #[.int .i64 (r.1:Int),.slice fo r.2.1.length gM,.slice bo nb gK] 88);have h1:=hs.few;have h2:=hs.body
 have HW:=H9 (Oo _ (r.1:Int) r.2.1 fo bo gM gK nb r.2.2 (hF.stay hb) (by omega) hs.fields hm (hB.stay hb) (by omega) (hP.stay hb));have HB:=H9 hb;clear hb hF hB hP hs hm h1 h2;have HT:Hid (Gt.textOf r=(Rp.out (r.1:Int) r.2.1 r.2.2).1):=rfl;rw[HT.o];clear HT;generalize Rp.out (r.1:Int) r.2.1 r.2.2=q at *;go_enter func65,ntmps65;go_wp2_with fail
 refine HW.o.mono ?_;rintro e w1 hR;cases hR with
 | bad c hc he ht hb =>
   subst he;have F4:=H9 (then_ HB.o hb);clear hb;go_wp2;go_ret;refine⟨⟨none,0,0,rfl,by rw[ht];rfl,by rw[ht];exact iH.nil _⟩,F4.o⟩
 | ok g cap n he hn ht hO hb =>
   subst he;subst hn;have F4:=H9 (then_ HB.o hb);have HO:=H9 hO;clear hb hO;go_wp2;go_ret;exact⟨⟨_,cap,_,rfl,rfl,HO.o.xg⟩,F4.o⟩
theorem WR (name:ay)(l:au):Fd.one (Fd.vals name l)=Tu.one (Tu.vals name l):=by
 show Fd.one (Tu.vals name l)=_;match Tu.vals name l with
 | []=>rfl
 | [_]=>rfl
 | _::_::_=>rfl
theorem EJ {w:World}{l:au}{fo:ak}{gM nf:Nat}(h:pX w l fo gM nf):
 Calls prog 148 #[.slice fo nf gM] w fun e w'=>e=.returned (.tuple #[.string ((Gt.bound l).elim ⟨#[]⟩ Gt.txt),.bool (Gt.bound l).isSome])∧aj w w':=by
 have HO:=H9 (uh l Tu.fCT fo gM nf w h.is h.len (by have:=h.few;omega) h.small (by decide));have hz:=h.val Tu.MV;rw[WR,Tu.Et] at HO;unfold Tu.fCT at HO;obtain⟨B,hB⟩:∃B,B=Gt.bound l:=⟨_,rfl⟩;rw[<-hB];unfold Gt.bound at hB;generalize Tu.one (Tu.vals Tu.MV l)=r at *;obtain⟨v,c⟩:=r;simp only[rQ] at hz HO hB;by_cases hc:c=0
 . subst hc;rw[if_neg (by simp)] at hB;have EC:=H9 hB;clear hB;have HP:Hid (∀W,Calls prog 168 #[.string ⟨v.toArray⟩] W fun e w'=>uU W (Pm.ku v) e w'):=fun W=>by
    have:=yT ⟨v.toArray⟩ W (by show v.toArray.size<=_;rw[bM];omega);rw[show(⟨v.toArray⟩:ay).data.toList=v from by simp] at this;exact this
   clear h;go_enter func148,ntmps148;go_wp2_with fail
   refine HO.o.mono ?_;rintro e w1 ⟨rfl,hb1⟩;have HB1:=H9 hb1;clear hb1;go_wp2_with fail
   refine(HP.o _).mono ?_;rintro e w2 ⟨word,ps,ao,cap,code,rfl,hM,hO2,hb2⟩;have ZC:aj w2 (w2.alloc (.cells #[.string word,.slice ao ps.length cap] 172)):=(fJ _ _).alloc (aM _) _;have HB2:=H9 (then_ (then_ HB1.o hb2) ZC);cases hm:Pm.ku v with
   | inl c2 =>
     rw[hm] at hM EC;obtain⟨rfl,rfl,rfl⟩:=hM;obtain rfl:B=none:=EC.o;clear hb2 ZC hO2 hm EC;by_cases h0:code=0
     . subst h0;go_wp2;go_ret2;exact⟨rfl,HB2.o⟩
     . have t0:((code:Int) != 0)=true:=by rw[cZ];omega
       go_wp2;go_ret2;exact⟨rfl,HB2.o⟩
   | inr x =>
     obtain⟨wd,qs⟩:=x;rw[hm] at hM EC;obtain⟨rfl,hwd,hqs⟩:=hM;simp only at hwd hqs;have nO:=Fm.Iu hm;have hlen:=Pm.AQ hm;subst hqs;have hn8:ps.length<=8:=by rw[<-sU];exact nO
     have hvz:∀p∈ps,p.2.size<=1000000:=fun p hp=>by
      have h2:p.2.data.toList.length<=v.length:=(hlen.2 (p.1.data.toList,p.2.data.toList) (aN.2 ⟨p,hp,rfl⟩)).2;rw[Ch.iD] at h2;omega
     obtain⟨n2,hn2⟩:∃n2,ps.length=n2:=⟨_,rfl⟩;rw[hn2] at hO2 ZC HB2;have HG:=H9 (zZ word ps ⟨#[98,111,117,110,100,97,114,121]⟩ ao cap n2 _ (hO2.nQ.stay ZC) hn2 (by omega) hvz);have HGl:=H9 (Aa ⟨#[98,111,117,110,100,97,114,121]⟩ ps);rw[hn2];clear hb2 ZC hO2 hm nO hlen hn8 hvz hn2;by_cases hw:wd=Gt.Qo
     . have tw:(word.toList==[109,117,108,116,105,112,97,114,116,47,102,111,114,109,45,100,97,116,97])=true:=by rw[aT,Lib.toList_data,hwd,hw];rfl
       have Yv:B=(lq ⟨#[98,111,117,110,100,97,114,121]⟩ ps).map (fun x=>x.data.toList):=by
        rw[HGl.o,EC.o];show(if wd≠Gt.Qo then none else Fm.get Gt.NC (mq ps))=_;rw[if_neg (by simp[hw])];rfl
       have HE:=H9 Yv;clear HGl EC Yv;generalize lq ⟨#[98,111,117,110,100,97,114,121]⟩ ps=q at *;go_wp2_with fail
       refine HG.o.mono ?_;rintro e w3 ⟨rfl,hb3⟩;have HB3:=H9 (then_ HB2.o hb3);clear hb3;go_wp2;go_ret2;refine⟨?_,HB3.o⟩;rw[HE.o];cases q with
       | none=>rfl
       | some y=>simp[Gt.txt]
     . have tw:(word.toList==[109,117,108,116,105,112,97,114,116,47,102,111,114,109,45,100,97,116,97])=false:=by
        rw[aS,Lib.toList_data,hwd];exact hw
       obtain rfl:B=none:=by
        rw[EC.o];show(if wd≠Gt.Qo then none else Fm.get Gt.NC (mq ps))=_;rw[if_pos hw]
       clear EC;go_wp2;go_ret2;exact⟨rfl,HB2.o⟩
 . have t0:((c:Int) != 0)=true:=by rw[cZ];omega
   rw[if_pos hc] at hB;subst hB;clear h;go_enter func148,ntmps148;go_wp2_with fail
   refine HO.o.mono ?_;rintro e w1 ⟨rfl,hb1⟩;have HB1:=H9 hb1;clear hb1;go_wp2;go_ret2;exact⟨rfl,HB1.o⟩
theorem SX (ps:List Fm.Pt)(k:Nat)(hk:k<ps.length):Gt.room (ps.take (k+1))=Gt.room (ps.take k)+(ps[k].bytes.length+200):=by
 unfold Gt.room;rw[bO hk,bG,List.sum_append];simp
theorem room_le (ps:List Fm.Pt)(k:Nat):Gt.room (ps.take k)<=Gt.room ps:=by
 unfold Gt.room;conv=>rhs;rw[<-bX k ps,bG,List.sum_append]
 omega
theorem OE {w:World}{ao:ak}{cap n:Nat}{ps:List Fm.Pt}(h:EI w ao cap ps)(hn:ps.length=n)(hr:Gt.room ps<=1000000000):
 Calls prog 150 #[.slice ao n cap] w fun e w'=>e=.returned (.int .i64 (Gt.room ps:Int))∧aj w w':=by
 subst hn;have HI:=H9 h;have hcap:ps.length<=cap:=by obtain⟨_,_,hv,_⟩:=h;exact hv.1
 have hN:ps.length<=10000000:=by
  have h1:∀l:List Fm.Pt,l.length*200<=Gt.room l:=fun l=>by
   induction l with
   | nil=>simp[Gt.room]
   | cons p t ih=>unfold Gt.room at *;simp at *;omega
  have:=h1 ps;omega
 clear h;go_enter func150,ntmps150;go_wp2;go_loopw [3,8] (fun vn vi wr=>∃i:Nat,i<=ps.length∧vi=.int .i64 i∧vn=.int .i64 (Gt.room (ps.take i):Int)∧aj w wr) (fun _ vi _=>ps.length-(intOf vi).toNat)
 case atStart=>exact⟨0,aA _,rfl,rfl,fJ _ _⟩
 case round =>
  obtain⟨i,hi,rfl,rfl,hb⟩:=hrel;have HB:=H9 hb;by_cases hlt:i<ps.length
  . have hlt':(i:Int)<ps.length:=by omega
    obtain⟨b,o,s,rfl,c0,c1,c2,c3,hIB⟩:=(HI.o.stay hb).at_ i hlt;have HR:=H9 (SX ps i hlt);have hle:=room_le ps i;have hle2:=room_le ps (i+1);rw[HR.o] at hle2;obtain⟨nb,hnb⟩:∃nb,ps[i].bytes.length=nb:=⟨_,rfl⟩;rw[hnb] at c3 HR hle2;have oH:=H9 (then_ hb ((fJ _ wr).alloc (aM _) (.cells #[.string ps[i].name,.string ps[i].file,.string ps[i].type,.slice s.bo nb s.gK] 70)));clear hb hIB hnb;generalize ps[i]=p at *;go_wp2;go_roundw
    case rel=>exact⟨i+1,by omega,by go_num,by rw[HR.o];go_num,oH.o⟩
    case measure=>simp[intOf];omega
  . obtain rfl:i=ps.length:=by omega
    clear hb;go_wp2;go_ret;refine⟨?_,HB.o⟩;rw[bP];rfl
inductive OM
 | row
 | jS
 | ids
 | list
 | box
 | out
def Md (l:List Int):List Value:=l.map fun i=>Value.int .i64 i
def Xc (io:ak)(iM:Nat)(ids:List Int):Ob:=fun w S=>gV w 0 3 1 io iM ids.length (Md ids)∧∀a,io=some a->S a.block
theorem Xc.law (io:ak)(iM:Nat)(ids:List Int):lQ (Xc io iM ids):=⟨fun h ht hs=>⟨h.1.turns ht (fun a e=>hs _ (h.2 a e)),h.2⟩,fun h hs=>⟨h.1,fun a e=>hs _ (h.1.block a e).2 (h.2 a e)⟩⟩
def yZ (g:Nat)(o:Obj):Ob:=fun w S=>w.heap[g]? = some o∧S g
theorem yZ.law (g:Nat)(o:Obj):lQ (yZ g o):=⟨fun h ht hs=>⟨ht.row h.1 (hs g h.2),h.2⟩,fun h hs=>⟨h.1,hs g (aL.1 h.1).1 h.2⟩⟩
def Yx (gs:Nat)(io:ak)(ni iM:Nat)(lo:ak)(nl iL:Nat):Obj:=.cells #[.pointer (some ⟨gs,0,none⟩),.slice io ni iM,.slice lo nl iL] 214 (0,0)
def ER (L gs:Nat)(s:Sr.Sh)(o:Obj)(io:ak)(iM:Nat)(ids:List Int)(lo:ak)(iL:Nat)(told:av)(b u:Ob):OM->Ob
 | .row=>yZ L o
 | .jS=>fun w S=>iI w S gs s
 | .ids=>Xc io iM ids
 | .list=>vO lo iL told
 | .box=>b
 | .out=>u
theorem sW {L gs:Nat}{s:Sr.Sh}{o:Obj}{io:ak}{iM:Nat}{ids:List Int}{lo:ak}{iL:Nat}{told:av}{b u:Ob}(hb:lQ b)(hu:lQ u):∀d,lQ (ER L gs s o io iM ids lo iL told b u d)
 | .row=>yZ.law _ _
 | .jS=>⟨fun h ht hs=>iI.turns h ht hs,fun h hs=>iI.mono h hs⟩
 | .ids=>Xc.law _ _ _
 | .list=>vO.law _ _ _
 | .box=>hb
 | .out=>hu
def mD (w:World)(S:Nat->Prop)(L gs:Nat)(s:Sr.Sh)(ids:List Int)(told:av):Prop :=
 ∃(κ:Nat->OM) (io:ak) (iM:Nat) (lo:ak) (iL:Nat),Held (ER L gs s (Yx gs io ids.length iM lo told.length iL) io iM ids lo iL told Lc Lc) κ w∧∀k,κ k≠.out->S k
section
variable {w w' w0:World} {S S' D:Nat->Prop} {L gs:Nat} {s:Sr.Sh} {ids:List Int} {told:av}
theorem mD.turns (h:mD w S L gs s ids told)(ht:Turns S' w w')(hs:∀k,S k->¬S' k):mD w' S L gs s ids told:=by
 obtain⟨κ,io,iM,lo,iL,hH,hS⟩:=h;refine⟨κ,io,iM,lo,iL,fun d=>?_,hS⟩;by_cases hd:d=.out
 . subst hd;exact trivial
 . exact(sW lQ.nG lQ.nG d).turns (hH d) ht (fun k e=>hs k (hS k (by rw[e];exact hd)))
theorem mD.stay (h:mD w S L gs s ids told)(hb:aj w w'):mD w' S L gs s ids told:=h.turns (Turns.of_below (S:=fun _=>False) hb) (fun _ _ e=>e)
theorem wT {κ:Nat->OM}{c:OM}(hS:∀k,κ k≠.out->gN S w k){n:Nat}(hn:w.heap.size<=n):∀k,jd κ n c k≠.out->gN S w k:=fun k hk=>by
 rcases aU k n with hl | hl
 . rw[jc hl] at hk;exact hS k hk
 . exact Or.inr (by omega)
section
variable {κ:Nat->OM} {o:Obj} {io:ak} {iM:Nat} {lo:ak} {iL:Nat} {b u:Ob}
theorem JF (hb:lQ b)(hu:lQ u)(h:Held (ER L gs s o io iM ids lo iL told b u) κ w){s':Sr.Sh}(hA:iI w' (gN (fun k=>κ k=.jS) w) gs s')(hT:Turns (fun k=>κ k=.jS) w w'):Held (ER L gs s' o io iM ids lo iL told b u) (jd κ w.heap.size .jS) w' :=
 h.act (sW hb hu) hT (fun _ e=>e) (X':=ER L gs s' o io iM ids lo iL told b u) ⟨fun h ht hs=>iI.turns h ht hs,fun h hs=>iI.mono h hs⟩ hA (fun _ e=>e) (fun d hd=>by cases d <;> first | rfl | exact absurd rfl hd)
theorem Xd (hb:lQ b)(hu:lQ u)(h:Held (ER L gs s o io iM ids lo iL told b u) κ w){o':Obj}(hr:w'.heap[L]? = some o')(hT:Turns (fun k=>k=L) w w'):Held (ER L gs s o' io iM ids lo iL told b u) (jd κ w.heap.size .row) w' :=
 h.act (sW hb hu) hT (fun k e=>by rw[e];exact(h .row).2) (X':=ER L gs s o' io iM ids lo iL told b u) (yZ.law _ _) (N:=fun k=>k=L) ⟨hr,rfl⟩ (fun k e=>Or.inl (by rw[e];exact(h .row).2)) (fun d hd=>by cases d <;> first | rfl | exact absurd rfl hd)
theorem acd (hb:lQ b)(hu:lQ u)(h:Held (ER L gs s o io iM ids lo iL told b u) κ w){Tq:ak}{wU:Nat}{Me:List Int}(hO:gV w' 0 3 1 Tq wU Me.length (Md Me))(hG:w.grownBy w' (gL io))(hat:∀j,gL Tq=some j->gL io=some j∨w.heap.size<=j):Held (ER L gs s o Tq wU Me lo iL told b u) (jd κ w.heap.size .ids) w':=by
 have hin:∀k,gL io=some k->κ k=.ids:=fun k e=>by
  cases io with
  | none=>cases e
  | some a=>injection e with e;rw[<-e];exact(h .ids).2 a rfl
 refine h.act (sW hb hu) (Turns.iZ (S:=fun k=>gL io=some k) hG (fun k e=>e)) hin (X':=ER L gs s o Tq wU Me lo iL told b u) (Xc.law _ _ _) (N:=fun k=>gL io=some k∨w.heap.size<=k) ⟨hO,fun a e=>hat a.block (by rw[e];rfl)⟩ (fun k e=>?_) (fun d hd=>by cases d <;> first | rfl | exact absurd rfl hd);rcases e with e | e
 . exact Or.inl (hin k e)
 . exact Or.inr e
theorem ZH (hb:lQ b)(hu:lQ u)(h:Held (ER L gs s o io iM ids lo iL told b u) κ w){lo':ak}{vJ:Nat}{told':av}(hO:vO lo' vJ told' w' (gN (fun k=>κ k=.list) w))(hT:Turns (fun k=>κ k=.list) w w'):Held (ER L gs s o io iM ids lo' vJ told' b u) (jd κ w.heap.size .list) w' :=
 h.act (sW hb hu) hT (fun _ e=>e) (X':=ER L gs s o io iM ids lo' vJ told' b u) (vO.law _ _ _) hO (fun _ e=>e) (fun d hd=>by cases d <;> first | rfl | exact absurd rfl hd)
theorem ace (hb:lQ b)(hu:lQ u)(h:Held (ER L gs s o io iM ids lo iL told b u) κ w)(z:Obj):Held (ER L gs s o io iM ids lo iL told (yZ w.heap.size z) u) (jd κ w.heap.size .box) (w.alloc z) :=
 h.act (sW hb hu) (Turns.of_below (S:=fun _=>False) ((fJ _ w).alloc (aM _) z)) (fun _ e=>e.elim) (X':=ER L gs s o io iM ids lo iL told (yZ w.heap.size z) u) (yZ.law _ _) (N:=fun k=>w.heap.size<=k) ⟨fI w z,aM _⟩ (fun k e=>Or.inr e) (fun d hd=>by cases d <;> first | rfl | exact absurd rfl hd)
theorem ZI (h:Held (ER L gs s o io iM ids lo iL told b u) κ w):Held (ER L gs s o io iM ids lo iL told Lc Lc) κ w
 | .row=>h .row
 | .jS=>h .jS
 | .ids=>h .ids
 | .list=>h .list
 | .box=>trivial
 | .out=>trivial
end
end
def Xe (bo:ak)(gK:Nat)(l:av):Ob:=fun w S=>ko w S bo gK l
theorem Xe.law (bo:ak)(gK:Nat)(l:av):lQ (Xe bo gK l):=⟨fun h ht hs=>ko.turns h ht hs,fun h hs=>ko.mono h hs⟩
structure lW (w:World)(S:Nat->Prop)(L gs n:Nat)(z:Obj)(bo:ak)(gK:Nat)(l:av)(s:Sr.Sh)(io:ak)(iM:Nat)(ids:List Int)(lo:ak)(iL:Nat)(told:av)(W:World):Prop where
 held:∃κ,Held (ER L gs s (Yx gs io ids.length iM lo told.length iL) io iM ids lo iL told (yZ n z) (Xe bo gK l)) κ W∧∀k,κ k≠.out->gN S w k
 turns:Turns S w W
section
variable {w W W':World} {S D:Nat->Prop} {L gs n:Nat} {z:Obj} {bo:ak} {gK:Nat} {l:av} {s:Sr.Sh} {io:ak} {iM:Nat} {ids:List Int} {lo:ak} {iL:Nat} {told:av}
theorem lW.start {κ:Nat->OM}(h:Held (ER L gs s (Yx gs io ids.length iM lo told.length iL) io iM ids lo iL told Lc Lc) κ w)(hS:∀k,κ k≠.out->S k)(hB:ko w D bo gK l)(hD:∀k,D k->¬S k)(z:Obj):lW w S L gs w.heap.size z bo gK l s io iM ids lo iL told (w.alloc z):=by
 have h1:Held (ER L gs s (Yx gs io ids.length iM lo told.length iL) io iM ids lo iL told Lc (Xe bo gK l)) κ w
  | .row=>h .row
  | .jS=>h .jS
  | .ids=>h .ids
  | .list=>h .list
  | .box=>trivial
  | .out=>ko.mono hB (fun k _ e=>eZ (fun e2=>hD k e (hS k e2)))
 exact⟨⟨_,ace lQ.nG (Xe.law _ _ _) h1 z,wT (fun k e=>Or.inl (hS k e)) (aM _)⟩,Turns.of_below ((fJ _ w).alloc (aM _) z)⟩
theorem lW.stay (h:lW w S L gs n z bo gK l s io iM ids lo iL told W)(hb:aj W W'):lW w S L gs n z bo gK l s io iM ids lo iL told W':=by
 obtain⟨⟨κ,hH,hS⟩,hT⟩:=h;exact⟨⟨κ,hH.stay (sW (yZ.law _ _) (Xe.law _ _ _)) hb,hS⟩,hT.trans (Turns.of_below (S:=fun _=>False) hb) (fun _ e _=>e.elim)⟩
theorem lW.row (h:lW w S L gs n z bo gK l s io iM ids lo iL told W):W.heap[L]? = some (Yx gs io ids.length iM lo told.length iL):=by
 obtain⟨⟨κ,hH,hS⟩,hT⟩:=h;exact(hH .row).1
theorem lW.box (h:lW w S L gs n z bo gK l s io iM ids lo iL told W):W.heap[n]? = some z:=by
 obtain⟨⟨κ,hH,hS⟩,hT⟩:=h;exact(hH .box).1
theorem lW.bytes (h:lW w S L gs n z bo gK l s io iM ids lo iL told W):iH W bo gK l:=by
 obtain⟨⟨κ,hH,hS⟩,hT⟩:=h;exact ko.is (hH .out)
theorem lW.ints (h:lW w S L gs n z bo gK l s io iM ids lo iL told W):gV W 0 3 1 io iM ids.length (Md ids):=by
 obtain⟨⟨κ,hH,hS⟩,hT⟩:=h;exact(hH .ids).1
theorem lW.done (h:lW w S L gs n z bo gK l s io iM ids lo iL told W):mD W (gN S w) L gs s ids told∧Turns S w W:=by
 obtain⟨⟨κ,hH,hS⟩,hT⟩:=h;exact⟨⟨κ,io,iM,lo,iL,ZI hH,hS⟩,hT⟩
theorem lW.did (h:lW w S L gs n z bo gK l s io iM ids lo iL told W):∃Sh:Nat->Prop,iI W Sh gs s∧(∀{s':Sr.Sh} {w':World},iI w' (gN Sh W) gs s'->Turns Sh W w'->lW w S L gs n z bo gK l s' io iM ids lo iL told w'):=by
 obtain⟨⟨κ,hH,hS⟩,hT⟩:=h;refine⟨fun k=>κ k=.jS,hH .jS,fun hA jV=>⟨⟨_,JF (yZ.law _ _) (Xe.law _ _ _) hH hA jV,wT hS hT.size⟩,hT.trans jV (fun k e hk=>?_)⟩⟩;rcases hS k (by rw[e];intro h;cases h) with h | h
 . exact h
 . omega
theorem lW.create (h:lW w S L gs n z bo gK l s io iM ids lo iL told W)(ok:Sr.Ok s)(sz:Int)(m:ay)(hm:m.size<=1000000):
 Calls prog 119 #[.pointer (some ⟨gs,0,none⟩),.int .i64 sz,.string m] W fun e w'=>e=.returned (.tuple #[.int .i64 (Sr.Du s (Sr.create s sz m).2),.int .i64 ((Sr.create s sz m).2:Int)])∧lW w S L gs n z bo gK l (Sr.create s sz m).1 io iM ids lo iL told w':=by
 obtain⟨Sh,h1,h2⟩:=h.did;exact(Ad h1 ok sz m hm).mono (fun e w' hd=>⟨hd.ret,h2 hd.at_ hd.turns⟩)
theorem lW.append (h:lW w S L gs n z bo gK l s io iM ids lo iL told W)(ok:Sr.Ok s)(id off:Int){bn:Nat}(hn:l.length=bn)(hN:bn<=1000000):
 Calls prog 130 #[.pointer (some ⟨gs,0,none⟩),.int .i64 id,.int .i64 off,.slice bo bn gK] W fun e w'=>e=.returned (.int .i64 ((Sr.append s id off l).2:Int))∧lW w S L gs n z bo gK l (Sr.append s id off l).1 io iM ids lo iL told w':=by
 obtain⟨Sh,h1,h2⟩:=h.did;exact(qN h1 ok id off bo bn gK l h.bytes hn hN).mono (fun e w' hd=>⟨hd.ret,h2 hd.at_ hd.turns⟩)
theorem lW.drop (h:lW w S L gs n z bo gK l s io iM ids lo iL told W)(ok:Sr.Ok s)(id:Int):
 Calls prog 132 #[.pointer (some ⟨gs,0,none⟩),.int .i64 id] W fun e w'=>e=.returned (.int .i64 ((Sr.drop s id).2:Int))∧lW w S L gs n z bo gK l (Sr.drop s id).1 io iM ids lo iL told w':=by
 obtain⟨Sh,h1,h2⟩:=h.did;exact(yY h1 ok id).mono (fun e w' hd=>⟨hd.ret,h2 hd.at_ hd.turns⟩)
theorem lW.grown (h:lW w S L gs n z bo gK l s io iM ids lo iL told W){Tq:ak}{wU:Nat}{i:Int}(hO:gV W' 0 3 1 Tq wU (ids.length+1) (Md ids++[.int .i64 i]))(hG:W.grownBy W' (gL io))(hat:∀j,gL Tq=some j->gL io=some j∨W.heap.size<=j):
 (W'.heap[L]? = some (Yx gs io ids.length iM lo told.length iL))∧lW w S L gs n z bo gK l s Tq wU (ids++[i]) lo iL told (W'.setCell ⟨L,1,none⟩ (.slice Tq (ids.length+1) wU)):=by
 obtain⟨⟨κ,hH,hS⟩,hT⟩:=h;have h1:=acd (yZ.law _ _) (Xe.law _ _ _) hH (Me:=ids++[i]) (by rw[aW];simpa[Md] using hO) hG hat;have hz:=hG.size;have hr:=(h1 .row).1;have jV:Turns (fun k=>k=L) W' (W'.setCell ⟨L,1,none⟩ (.slice Tq (ids.length+1) wU)):=Turns.setCell _ _ _ _ rfl;have h2:=Xd (yZ.law _ _) (Xe.law _ _ _) h1 (o':=Yx gs Tq (ids.length+1) wU lo told.length iL) (fO W' L 1 _ _ _ hr) jV;have hL:=(hH .row).2;refine⟨hr,⟨⟨jd (jd κ W.heap.size .ids) W'.heap.size .row,?_,wT (wT hS hT.size) (dG hT.size hz)⟩,(hT.trans (Turns.iZ (S:=fun k=>gL io=some k) hG (fun k e=>e)) (fun k e hk=>?_)).trans jV (fun k e hk=>?_)⟩⟩
 . rw[aW];exact h2
 . cases io with
   | none=>cases e
   | some a =>
     injection e with e;rw[<-e];rw[<-e] at hk;rcases hS a.block (by rw[(hH .ids).2 a rfl];intro h;cases h) with h | h
     . exact h
     . omega
 . rw[e];rw[e] at hk;rcases hS L (by rw[hL];intro h;cases h) with h | h
   . exact h
   . omega
theorem lW.listed (h:lW w S L gs n z bo gK l s io iM ids lo iL told W):∃Sl:Nat->Prop,vO lo iL told W Sl∧∀(lo':ak) (vJ m:Nat) (t2:av) (W':World),told.length+t2.length=m->vO lo' vJ (told++t2) W' (gN Sl W)->Turns Sl W W' ->
 (W'.heap[L]? = some (Yx gs io ids.length iM lo told.length iL))∧lW w S L gs n z bo gK l s io iM ids lo' vJ (told++t2) (W'.setCell ⟨L,2,none⟩ (.slice lo' m vJ)):=by
 obtain⟨⟨κ,hH,hS⟩,hT⟩:=h;refine⟨fun k=>κ k=.list,hH .list,fun lo' vJ m t2 W' hm hO hT1=>?_⟩;have h1:=ZH (yZ.law _ _) (Xe.law _ _ _) hH hO hT1;have hz:=hT1.size;have hr:=(h1 .row).1;have jV:Turns (fun k=>k=L) W' (W'.setCell ⟨L,2,none⟩ (.slice lo' m vJ)):=Turns.setCell _ _ _ _ rfl;have h2:=Xd (yZ.law _ _) (Xe.law _ _ _) h1 (o':=Yx gs io ids.length iM lo' m vJ) (fO W' L 2 _ _ _ hr) jV;have hL:=(hH .row).2;refine⟨hr,⟨⟨jd (jd κ W.heap.size .list) W'.heap.size .row,?_,wT (wT hS hT.size) (dG hT.size hz)⟩,(hT.trans hT1 (fun k e hk=>?_)).trans jV (fun k e hk=>?_)⟩⟩
 . rw[aW,hm];exact h2
 . rcases hS k (by rw[e];intro h;cases h) with h | h
   . exact h
   . omega
 . rw[e];rw[e] at hk;rcases hS L (by rw[hL];intro h;cases h) with h | h
   . exact h
   . omega
end
section
variable {w w0:World} {S D:Nat->Prop} {L gs:Nat}
theorem Xf (p:wS w0 w S)(r:Gt.Ld)(h:mD w S L gs r.s r.ids r.told)(ok:Sr.Ok r.s)(q:Fm.Pt){bo:ak}{gK nb:Nat}(hB:ko w D bo gK q.bytes)(hD:∀k,D k->¬S k)(hn:q.bytes.length=nb)(hnb:nb<=1000000)(hf:q.file.size<=900000)(hi:r.ids.length<=1000)(ht:r.told.length<=1000000):
 Calls prog 199 #[.pointer (some ⟨L,0,none⟩),.agg #[.string q.name,.string q.file,.string q.type,.slice bo nb gK]] w fun e w'=>e=.returned (.int .i64 ((Gt.oQ r q).code:Int))∧mD w' (gN S w) L gs (Gt.oQ r q).s (Gt.oQ r q).ids (Gt.oQ r q).told∧Turns S w w':=by
 obtain⟨κ,io,iM,lo,iL,hH,hS⟩:=h;have G1:=lW.start hH hS hB hD (.cells #[.string q.name,.string q.file,.string q.type,.slice bo nb gK] 70 (0,0));have Ci:Hid (∀{s:Sr.Sh} {io:ak} {iM:Nat} {ids:List Int} {lo:ak} {iL:Nat} {told:av} {W:World},lW w S L gs w.heap.size (.cells #[.string q.name,.string q.file,.string q.type,.slice bo nb gK] 70 (0,0)) bo gK q.bytes s io iM ids lo iL told W->((W.cell? ⟨L,0,none⟩=some (.pointer (some ⟨gs,0,none⟩))∧W.cell? ⟨L,1,none⟩=some (.slice io ids.length iM)∧W.cell? ⟨L,2,none⟩=some (.slice lo told.length iL))∧(W.frozen? ⟨L,0,none⟩=false∧W.frozen? ⟨L,1,none⟩=false∧W.frozen? ⟨L,2,none⟩=false))∧(W.cell? ⟨w.heap.size,1,none⟩=some (.string q.file)∧W.cell? ⟨w.heap.size,3,none⟩=some (.slice bo nb gK))):=fun hG=>⟨Zi hG.row,fK _ _ 1 _ _ _ hG.box,fK _ _ 3 _ _ _ hG.box⟩;obtain⟨⟨⟨c0,c1,c2⟩,f0,f1,f2⟩,b1,b3⟩:=Ci.o G1;have hmz:(Gt.jf q).size=9+q.file.size:=by
  show(Gt.BD++q.file.data.toList).toArray.size=_;rw[bM,aW,aO];rfl
 have hme:(⟨#[102,105,108,101,110,97,109,101,32]⟩:ay)++q.file=Gt.jf q:=by
  apply ByteArray.ext;rw[ByteArray.data_append];show _=(Gt.BD++q.file.data.toList).toArray;rw[<-fH];simp[Gt.BD]
 have UU:=H9 ((G1.stay (gQ _ _)).create ok (nb:Int) (Gt.jf q) (by omega));have HP:=H9 p;obtain⟨R,hR⟩:∃R,R=Gt.oQ r q:=⟨_,rfl⟩;rw[<-hR];unfold Gt.oQ at hR;rw[hn] at hR;have HR:=H9 hR;have qy:=H9 (ok.create (nb:Int) (Gt.jf q));have HCs:Hid ((Sr.create r.s (nb:Int) (Gt.jf q)).2≠0->(Sr.create r.s (nb:Int) (Gt.jf q)).1=r.s):=fun e=>Gt.LZ e;have hl0:=ok.h.Dn;have hl1:=ok.Km
 have hzz:¬(9223372036854775807<9+q.file.size):=by omega
 rw[<-hme] at UU HR qy HCs;clear hme;clear G1 hH hS hB p hR ok hmz;generalize hcr:Sr.create r.s (nb:Int) (⟨#[102,105,108,101,110,97,109,101,32]⟩++q.file)=cr at *;clear hcr;obtain⟨s1,k1⟩:=cr;simp only at HR UU qy HCs;go_enter func199,ntmps199;go_upto_region 1 with fail
 go_cut [5,6] (fun v5 v6 wd=>v5=.int .i64 (Sr.Du r.s k1)∧v6=.int .i64 (k1:Int)∧lW w S L gs w.heap.size (.cells #[.string q.name,.string q.file,.string q.type,.slice bo nb gK] 70 (0,0)) bo gK q.bytes s1 io iM r.ids lo iL r.told wd)
 case first =>
  go_region_held3 (fun W=>W.cell? ⟨L,0,none⟩=some (.pointer (some ⟨gs,0,none⟩))∧W.cell? ⟨w.heap.size,1,none⟩=some (.string q.file)∧W.cell? ⟨w.heap.size,3,none⟩=some (.slice bo nb gK)) (go_keep) ((go_at_call 119;refine UU.o.mono ?_;rintro e w1 ⟨rfl,hG⟩;have HG:=H9 hG;obtain⟨⟨⟨d0,d1,d2⟩,e0,e1,e2⟩,d3,d4⟩:=Ci.o hG;clear hG))
  all_goals
   go_wp2;go_meet;exact⟨rfl,rfl,HG.o⟩
 case rest =>
  obtain⟨rfl,rfl,hG⟩:=hcut;clear UU c0 c1 c2 f0 f1 f2 b1 b3;obtain⟨⟨⟨c0,c1,c2⟩,f0,f1,f2⟩,b1,b3⟩:=Ci.o hG;have HG:=H9 hG;by_cases hk1:k1=0
  . subst hk1;obtain⟨id,hid⟩:∃id,id=r.s.h.last+1:=⟨_,rfl⟩;have Lx:Sr.Du r.s 0=id:=by rw[hid];exact if_pos rfl
    rw[Lx];rw[<-hid,if_neg (by simp)] at HR;have M9:=H9 ((hG.stay (gQ _ _)).append qy.o id 0 hn hnb);have ZJ:=H9 (qy.o.append id 0 q.bytes);have anb:0<=id:=by omega
    have anc:id<=100001:=by omega
    clear hG Lx hid HCs hl0 hl1;obtain⟨n,rfl⟩:∃n:Nat,id=n:=⟨id.toNat,by omega⟩;generalize Sr.append s1 (n:Int) 0 q.bytes=ap at *;obtain⟨s2,k2⟩:=ap;simp only at HR M9 ZJ;go_upto_region 4 with fail
    go_cut [6] (fun v6 wd=>v6=.int .i64 (k2:Int)∧lW w S L gs w.heap.size (.cells #[.string q.name,.string q.file,.string q.type,.slice bo nb gK] 70 (0,0)) bo gK q.bytes s2 io iM r.ids lo iL r.told wd)
    case first =>
     go_region_held3 (fun W=>W.cell? ⟨L,0,none⟩=some (.pointer (some ⟨gs,0,none⟩))∧W.cell? ⟨w.heap.size,3,none⟩=some (.slice bo nb gK)) (go_keep) ((go_at_call 130;refine M9.o.mono ?_;rintro e w1 ⟨rfl,hG⟩;have HG2:=H9 hG;obtain⟨⟨⟨d0,d1,d2⟩,e0,e1,e2⟩,d3,d4⟩:=Ci.o hG;clear hG))
     all_goals
      go_wp2;go_meet;exact⟨rfl,HG2.o⟩
    case rest =>
     obtain⟨rfl,hG⟩:=hcut;clear M9 c0 c1 c2 f0 f1 f2 b1 b3 HG qy;obtain⟨⟨⟨c0,c1,c2⟩,f0,f1,f2⟩,b1,b3⟩:=Ci.o hG;have HG:=H9 hG;by_cases hk2:k2=0
     . subst hk2;rw[if_neg (by simp)] at HR;obtain⟨i0,hi0,hz0,hz1,hz2⟩:=info_parts KX;have Hi:=H9 hi0;have kK:=H9 hz0;have kH:=H9 hz1;have kL:=H9 hz2
       obtain⟨j0,hj0,hy0,hy1,hy2⟩:=info_parts jO;have Hj:=H9 hj0;have M0:=H9 hy0;have M4:=H9 hy1;have M5:=H9 hy2
       have HGa:=H9 (hG.stay ((fJ _ wc).alloc (aM _) (.cells #[.int .i64 (n:Int)] 3)));have HOi:=H9 HGa.o.ints;obtain⟨⟨⟨a0,a1,a2⟩,g0,g1,g2⟩,a3,a4⟩:=Ci.o HGa.o;clear hG hi0 hz0 hz1 hz2 hj0 hy0 hy1 hy2;go_upto_region 9 with (at_builtin;refine gT rfl (.tmp 45) (.tmp 47) 55 rfl 0 3 i0 (.int .i64 0) 1 8 underlying55 Hi.o kK.o kH.o kL.o rfl (by decide) rfl HOi.o rfl (jo.made _ _ 1 _ _) rfl (fun u hu=>by simp at hu;rw[hu];rfl) (by omega) (by omega) (aA _) ?_;intro Tq wU w3 hO3 hG3 kC;obtain⟨hr3,hg3⟩:=HGa.o.grown hO3 hG3 (fun j e=>by rcases kC with h | h;exact Or.inl (h▸e);exact Or.inr (by rw[h] at e;injection e with e;omega));have sG:=H9 hg3;obtain⟨⟨h30,h31,h32⟩,y30,y31,y32⟩:=Zi hr3;clear hO3 hG3 kC hr3 hg3)
       clear a0 a1 a2 a3 a4 g0 g1 g2 h30 h31 h32 y30 y31 y32 c0 c1 c2 f0 f1 f2 b1 b3 HG HGa HOi;generalize w3.setCell ⟨L,1,none⟩ (.slice Tq (r.ids.length+1) wU)=w4 at *;have Tt:=H9 (sG.o.stay (gQ _ _));have hpw:nA w4.drew:=HP.o.pow.stay (HP.o.vN.trans (Tt.o.turns.below (fun k e=>HP.o.far k e) HP.o.vN.size));have HIt:=H9 (uf n (by omega) w4.drew hpw);obtain⟨⟨⟨c0,c1,c2⟩,f0,f1,f2⟩,b1,b3⟩:=Ci.o sG.o;obtain⟨d,hd⟩:∃d:ay,d=⟨(Ch.jH 8 n).toArray⟩:=⟨_,rfl⟩;have hdz:d.size<=9:=by
        rw[hd];show(Ch.jH 8 n).toArray.size<=9;rw[bM];exact(Ch.jX 8 n).1
       have hz1:¬(9223372036854775807<d.size+1):=by omega
       have hz2:¬(9223372036854775807<d.size+1+q.file.size):=by omega
       have hz3:¬(9223372036854775807<d.size+1+q.file.size+1):=by omega
       rw[<-hd] at HIt;have HTl:Hid ((d++⟨#[32]⟩++q.file++⟨#[10]⟩:ay).data.toList=Gt.toldOf (n:Int) q.file):=by
        unfold Hid Gt.toldOf;rw[hd];simp
       have CO:Hid ((d++⟨#[32]⟩++q.file++⟨#[10]⟩:ay).size=d.size+1+q.file.size+1):=by
        unfold Hid;rw[bN,bN,bN];rfl
       have HTs:Hid ((Gt.toldOf (n:Int) q.file).length=d.size+1+q.file.size+1):=by unfold Hid;rw[<-HTl.o,Ch.iD];exact CO.o
       clear hpw hd sG HP;go_cut [] (fun wd=>mD wd (gN S w) L gs s2 (r.ids++[(n:Int)]) (r.told++Gt.toldOf (n:Int) q.file)∧Turns S w wd)
       case first =>
        go_region_law (first
         | (go_simp;go_at_call 122;refine HIt.o.mono ?_;rintro e w5 ⟨rfl,hb5⟩;have HG5:=H9 (Tt.o.stay hb5);obtain⟨⟨⟨d0,d1,d2⟩,e0,e1,e2⟩,d3,d4⟩:=Ci.o HG5.o;clear hb5)
         | (obtain⟨Sl,hSl,hsl⟩:=HG5.o.listed;have HSl:=H9 hSl;have Hsl:=H9 hsl;clear hSl hsl;refine EK (by rfl) (.tmp 55) (.tmp 62) 31 9 (by rfl) 5 j0 underlying31 underlying9 Hj.o M0.o M4.o M5.o (by rfl) rfl HSl.o (d++⟨#[32]⟩++q.file++⟨#[10]⟩) (d.size+1+q.file.size+1) CO.o (by omega) (by rfl) (by omega) ?_;intro lo' vJ w6 vI qZ;rw[HTl.o] at vI;obtain⟨EO,hg6⟩:=Hsl.o lo' vJ (r.told.length+(d.size+1+q.file.size+1)) (Gt.toldOf (n:Int) q.file) w6 (by rw[HTs.o]) vI qZ;have Yu:=H9 hg6;obtain⟨⟨h60,h61,h62⟩,y60,y61,y62⟩:=Zi EO;have hx6:=fK _ _ 1 _ _ _ hg6.box;have HX6:=H9 hx6;clear vI qZ EO hg6;(try simp only[Act.put,List.setIfInBounds_toArray,eu,List.set_cons_succ])))
        all_goals
         go_wp2;go_meet;exact Yu.o.done
       case rest =>
        go_wp2;go_ret;rw[HR.o];exact⟨rfl,hcut⟩
     . have t2:((k2:Int) != 0)=true:=by rw[cZ];omega
       rw[if_pos hk2] at HR;have UY:=H9 (hG.drop ZJ.o (n:Int));clear hG;go_wp2_with fail
       refine UY.o.mono ?_;rintro e w3 ⟨rfl,hG3⟩;have sG:=H9 hG3;clear hG3;go_wp2;go_ret;rw[HR.o];exact⟨rfl,sG.o.done⟩
  . have t1:((k1:Int) != 0)=true:=by rw[cZ];omega
    rw[if_pos hk1] at HR;rw[HCs.o hk1] at HG;clear hG;go_wp2;go_ret;rw[HR.o];exact⟨rfl,HG.o.done⟩
end
def F8 (w:World)(D:Nat->Prop)(ao:ak)(cap:Nat)(ps:List Fm.Pt):Prop:=∃qs:List (Fm.Pt×UQ),qs.map (·.1)=ps∧nE w D ao cap ps.length (uq qs)∧∀q∈qs,ko w D q.2.bo q.2.gK q.1.bytes
section
variable {w w':World} {S D D':Nat->Prop} {ao:ak} {cap:Nat} {ps:List Fm.Pt}
theorem F8.turns (h:F8 w D ao cap ps)(ht:Turns S w w')(hs:∀k,D k->¬S k):F8 w' D ao cap ps:=by
 obtain⟨qs,h1,h2,h3⟩:=h;exact⟨qs,h1,h2.turns ht hs,fun q hq=>(h3 q hq).turns ht hs⟩
theorem F8.aaU (h:F8 w D ao cap ps):EI w ao cap ps:=by
 obtain⟨qs,h1,h2,h3⟩:=h;exact⟨qs,h1,h2.is,fun q hq=>(h3 q hq).is⟩
theorem F8.at_ (h:F8 w D ao cap ps)(k:Nat)(hk:k<ps.length):∃(b o:Nat) (s:UQ),ao=some ⟨b,o,none⟩∧w.cell? ⟨b,o+k*4,none⟩=some (.string ps[k].name)∧w.cell? ⟨b,o+k*4+1,none⟩=some (.string ps[k].file)∧w.cell? ⟨b,o+k*4+2,none⟩=some (.string ps[k].type)∧w.cell? ⟨b,o+k*4+3,none⟩=some (.slice s.bo ps[k].bytes.length s.gK)∧ko w D s.bo s.gK ps[k].bytes:=by
 obtain⟨qs,rfl,hv,hb⟩:=h;have hk':k<qs.length:=by simpa using hk
 obtain⟨b,o,rfl,hc⟩:=hv.is.lit (by rw[qc];omega);have hq:=hb _ (aC hk');have e0:=pE qs k hk' 0 (by decide);have e1:=pE qs k hk' 1 (by decide);have e2:=pE qs k hk' 2 (by decide);have e3:=pE qs k hk' 3 (by decide);refine⟨b,o,qs[k].2,rfl,?_,?_,?_,?_,?_⟩
 . rw[aG];exact hc _ _ (by rw[bK] at e0;exact e0)
 . rw[aG,bL];exact hc _ _ e1
 . rw[aG,bL];exact hc _ _ e2
 . rw[aG,bL];exact hc _ _ e3
 . rw[aG];exact hq
theorem qd.aib {w1:World}{n:Nat}(h:qd w1 D ps ao cap n w')(hD:∀k,w1.heap.size<=k->D k):F8 w' (fun k=>D k∧k<w'.heap.size) ao cap ps:=by
 obtain⟨qs,h1,h2,h3⟩:=h.own;refine⟨qs,h1,⟨by rw[<-h.len];exact h2.nQ,fun _ a e=>⟨hD _ (h2.block a e).1,(h2.block a e).2⟩⟩,fun q hq=>?_⟩;refine((h3 q hq).mono (S':=fun k=>D k∧k<w1.heap.size) (fun k hk e=>⟨e,hk⟩)).turns (Turns.of_below (S:=fun _=>False) h.below) (fun _ _ e=>e) |>.mono (fun k hk e=>⟨e.1,hk⟩)
end
section
variable {w w0 W W':World} {S S' D:Nat->Prop} {L gs:Nat} {s:Sr.Sh} {io:ak} {iM:Nat} {ids:List Int} {told:av}
theorem mD.mono (h:mD w S L gs s ids told)(hs:∀k,k<w.heap.size->S k->S' k):mD w S' L gs s ids told:=by
 obtain⟨κ,io,iM,lo,iL,hH,hS⟩:=h;refine⟨jd κ w.heap.size .out,io,iM,lo,iL,fun d=>?_,fun k hk=>?_⟩
 . by_cases hd:d=.out
   . subst hd;exact trivial
   . exact(sW lQ.nG lQ.nG d).mono (hH d) (fun k hk e=>(jc hk).trans e)
 . rcases aU k w.heap.size with hl | hl
   . rw[jc hl] at hk;exact hs k hl (hS k hk)
   . exact absurd (qO hl) hk
theorem wS.then_ (p:wS w0 w S)(ht:Turns S w W):wS w0 W (gN S w):=⟨p.pow,p.vN.trans (ht.below (fun k e=>p.far k e) p.vN.size),fun k e=>by
 rcases e with e | e
 . exact p.far k e
 . exact dG p.vN.size e⟩
theorem OO (p:wS w0 w S)(r:Gt.Ld)(h:mD w S L gs r.s r.ids r.told)(hk:Gt.WS r)(h0:r.code=0)(ps:List Fm.Pt){ao:ak}{cap n:Nat}(hP:F8 w D ao cap ps)(hD:∀k,D k->¬S k∧k<w.heap.size)(hn:ps.length=n)(hN:n<=1000000)(hz:∀q∈ps,q.bytes.length<=1000000∧q.file.size<=900000):
 Calls prog 151 #[.pointer (some ⟨L,0,none⟩),.slice ao n cap] w fun e w'=>e=.returned (.int .i64 ((Gt.adds r ps).code:Int))∧mD w' (gN S w) L gs (Gt.adds r ps).s (Gt.adds r ps).ids (Gt.adds r ps).told∧Turns S w w':=by
 subst hn;obtain⟨R,hR⟩:∃R,R=Gt.adds r ps:=⟨_,rfl⟩;rw[<-hR];have HP:=H9 p;have UZ:=H9 hP;have HDj:=H9 hD;have HZ:=H9 hz
 have hcap:ps.length<=cap:=hP.aaU.choose_spec.2.1.1;have Ap:Hid (∃ri:Gt.Ld,R=Gt.adds ri (ps.drop 0)∧ri.code=0∧Gt.WS ri∧mD w (gN S w) L gs ri.s ri.ids ri.told∧Turns S w w):=⟨r,hR,h0,hk,h.mono (fun k _ e=>Or.inl e),Turns.refl _ _⟩;clear p hP hD hz h hk h0 hR;go_enter func151,ntmps151;go_wp2;go_loopw [10] (fun vi wr=>∃i:Nat,i<=ps.length∧vi=.int .i64 i∧∃ri:Gt.Ld,R=Gt.adds ri (ps.drop i)∧ri.code=0∧Gt.WS ri∧mD wr (gN S w) L gs ri.s ri.ids ri.told∧Turns S w wr) (fun vi _=>ps.length-(intOf vi).toNat)
 case atStart=>exact⟨0,aA _,rfl,Ap.o⟩
 case round =>
  obtain⟨i,hi,rfl,ri,hR,hc,hok,hL,hT⟩:=hrel;by_cases hlt:i<ps.length
  . have hlt':(i:Int)<ps.length:=by omega
    have hPr:=UZ.o.turns hT (fun k e=>(HDj.o k e).1);obtain⟨b,o,sl,rfl,c0,c1,c2,c3,hIB⟩:=hPr.at_ i hlt;have hq:=HZ.o ps[i] (aC hlt);rw[aD hlt] at hR;obtain⟨nb,hnb⟩:∃nb,ps[i].bytes.length=nb:=⟨_,rfl⟩;rw[hnb] at c3;have hnl:nb<=1000000:=by rw[<-hnb];exact hq.1
    have jq:=(fJ _ wr).alloc (aM _) (.cells #[.string ps[i].name,.string ps[i].file,.string ps[i].type,.slice sl.bo nb sl.gK] 70);have hTA:Turns S w (wr.alloc (.cells #[.string ps[i].name,.string ps[i].file,.string ps[i].type,.slice sl.bo nb sl.gK] 70)):=hT.trans (Turns.of_below (S:=fun _=>False) jq) (fun _ e _=>e.elim);have hLA:=hL.stay jq;have hIA:=hIB.turns (Turns.of_below (S:=fun _=>False) jq) (fun _ _ e=>e);generalize ps[i]=q at *;obtain⟨tf,htf⟩:∃tf,(q.file.toList==([]:av))=tf:=⟨_,rfl⟩;have eF:q.file.size=0<->tf=true:=by
     rw[<-htf,aT,Lib.toList_data,<-dK,aO];rfl
    have HR:=H9 hR;have HC:=H9 hc;have qy:=H9 hok;have HLA:=H9 hLA;have HTA:=H9 hTA
    cases tf with
    | true =>
      have HRt:Hid (R=Gt.adds ri (ps.drop (i+1))):=by unfold Hid;rw[HR.o];unfold Gt.adds;rw[if_pos (eF.2 rfl)];cases ps.drop (i+1) <;> rfl
      clear hR hc hok hL hT hPr hIB hIA jq hTA hLA hq eF HR;go_wp2;go_roundw
      case rel=>exact⟨i+1,by omega,by go_num,ri,HRt.o,HC.o,qy.o,HLA.o,HTA.o⟩
      case measure=>simp[intOf];omega
    | false =>
      have hfn:¬q.file.size=0:=fun e=>by have:=eF.1 e;cases this
      have nO:ri.ids.length<=12:=by
       rcases hok.few with h | h
       . have:=hok.ok.h.few;omega
       . exact absurd hc h
      have htd:ri.told.length<=1000000:=by have:=hok.told;omega
      have Tv:=H9 (Xf (HP.o.then_ hTA) ri hLA hok.ok q hIA (fun k e e2=>by
       rcases e2 with e2 | e2
       . exact(HDj.o k e).1 e2
       . have:=(HDj.o k e).2;omega) hnb hnl hq.2 (by omega) htd)
      have ZJ:=H9 (Gt.SY hok hc q);have HRt:Hid (R=if (Gt.oQ ri q).code≠0 then Gt.oQ ri q else Gt.adds (Gt.oQ ri q) (ps.drop (i+1))):=by unfold Hid;rw[HR.o];conv=>lhs;unfold Gt.adds;rw[if_neg hfn]
      clear hR hc hok hL hT hPr hIB hIA jq hTA hLA hq eF HR hfn nO htd HLA qy HC;generalize Gt.oQ ri q=ra at *;go_wp2_with fail
      refine Tv.o.mono ?_;rintro e w5 ⟨rfl,hL5,xQ⟩;have qZ:Turns S w w5:=HTA.o.trans xQ (fun k e hk=>by
       rcases e with e | e
       . exact e
       . omega)
      have hL6:mD w5 (gN S w) L gs ra.s ra.ids ra.told:=hL5.mono (fun k _ e=>by
       rcases e with e | e
       . exact e
       . exact Or.inr (dG HTA.o.size e))
      have HT6:=H9 qZ;have HL6:=H9 hL6
      clear hL5 xQ qZ hL6;by_cases hk:ra.code=0
      . have tk:((ra.code:Int) != 0)=false:=by rw[hk];rfl
        rw[if_neg (by rw[hk];simp)] at HRt;have HK:=H9 hk;clear hk;go_wp2;go_roundw
        case rel=>exact⟨i+1,by omega,by go_num,ra,HRt.o,HK.o,ZJ.o,HL6.o,HT6.o⟩
        case measure=>simp[intOf];omega
      . have tk:((ra.code:Int) != 0)=true:=by rw[cZ];omega
        rw[if_pos hk] at HRt;clear hk;go_wp2;go_ret;rw[HRt.o];exact⟨rfl,HL6.o,HT6.o⟩
  . obtain rfl:i=ps.length:=by omega
    rw[dY] at hR;have hR2:R=ri:=hR;have HR:=H9 hR2;have HC:=H9 hc;have HL:=H9 hL;have HT:=H9 hT
    clear hR hc hok hL hT hR2;go_wp2;go_ret;rw[HR.o,HC.o];exact⟨rfl,HL.o,HT.o⟩
structure JG (w:World)(S:Nat->Prop)(L gs:Nat)(s:Sr.Sh)(io:ak)(iM:Nat)(ids:List Int)(told:av)(W:World):Prop where
 held:∃κ lo iL,Held (ER L gs s (Yx gs io ids.length iM lo told.length iL) io iM ids lo iL told Lc Lc) κ W∧∀k,κ k≠.out->gN S w k
 turns:Turns S w W
theorem mD.aii (h:mD w S L gs s ids told):∃io iM,JG w S L gs s io iM ids told w:=by
 obtain⟨κ,io,iM,lo,iL,hH,hS⟩:=h;exact⟨io,iM,⟨κ,lo,iL,hH,fun k e=>Or.inl (hS k e)⟩,Turns.refl _ _⟩
theorem JG.done (h:JG w S L gs s io iM ids told W):mD W (gN S w) L gs s ids told∧Turns S w W:=by
 obtain⟨⟨κ,lo,iL,hH,hS⟩,hT⟩:=h;exact⟨⟨κ,io,iM,lo,iL,hH,hS⟩,hT⟩
theorem JG.cells (h:JG w S L gs s io iM ids told W):W.cell? ⟨L,0,none⟩=some (.pointer (some ⟨gs,0,none⟩))∧W.cell? ⟨L,1,none⟩=some (.slice io ids.length iM)∧jo W io iM ids.length (Md ids):=by
 obtain⟨⟨κ,lo,iL,hH,hS⟩,hT⟩:=h;exact⟨fK _ _ 0 _ _ _ (hH .row).1,fK _ _ 1 _ _ _ (hH .row).1,(hH .ids).1.nQ⟩
theorem JG.drop (h:JG w S L gs s io iM ids told W)(ok:Sr.Ok s)(id:Int):
 Calls prog 132 #[.pointer (some ⟨gs,0,none⟩),.int .i64 id] W fun e w'=>e=.returned (.int .i64 ((Sr.drop s id).2:Int))∧JG w S L gs (Sr.drop s id).1 io iM ids told w':=by
 obtain⟨⟨κ,lo,iL,hH,hS⟩,hT⟩:=h;refine(yY (hH .jS) ok id).mono (fun e w' hd=>⟨hd.ret,⟨⟨_,lo,iL,JF lQ.nG lQ.nG hH hd.at_ hd.turns,wT hS hT.size⟩,hT.trans hd.turns (fun k e hk=>?_)⟩⟩);rcases hS k (by rw[e];intro h;cases h) with h | h
 . exact h
 . omega
theorem JH (s:Sr.Sh)(ids:List Int)(k:Nat)(hk:k<ids.length):Gt.pq s (ids.take (k+1))=(Sr.drop (Gt.pq s (ids.take k)) ids[k]).1:=by
 unfold Gt.pq;rw[bO hk,fA];rfl
theorem Mf (h:mD w S L gs s ids told)(ok:Sr.Ok s)(hN:ids.length<=1000000):
 Calls prog 152 #[.pointer (some ⟨L,0,none⟩)] w fun e w'=>e=.returned (.tuple #[])∧mD w' (gN S w) L gs (Gt.pq s ids) ids told∧Turns S w w':=by
 obtain⟨io,iM,hI⟩:=h.aii;obtain⟨c0,c1,hV⟩:=hI.cells;have HI:=H9 hI;have HO:=H9 ok
 have hcap:=hV.1;clear h hI ok;go_enter func152,ntmps152;go_wp2;go_loopw [9] (fun vi wr=>∃i:Nat,i<=ids.length∧vi=.int .i64 i∧JG w S L gs (Gt.pq s (ids.take i)) io iM ids told wr) (fun vi _=>ids.length-(intOf vi).toNat)
 case atStart=>exact⟨0,aA _,rfl,HI.o⟩
 case round =>
  obtain⟨i,hi,rfl,hG⟩:=hrel;have HG:=H9 hG;clear c0 c1 hV;obtain⟨c0,c1,hV⟩:=hG.cells;by_cases hlt:i<ids.length
  . have hlt':(i:Int)<ids.length:=by omega
    obtain⟨b,o,rfl,hc⟩:=hV.lit (by simp[Md];omega);have ci:=hc i (.int .i64 ids[i]) (by unfold Md;rw[dB,dD hlt];rfl);have UY:=H9 (hG.drop (Gt.uL (ids.take i) HO.o) ids[i]);rw[<-JH s ids i hlt] at UY;clear hG hV hc;generalize ids[i]=x at *;go_wp2_with fail
    refine UY.o.mono ?_;rintro e w5 ⟨rfl,Lv⟩;have HG5:=H9 Lv;clear Lv;go_wp2;go_roundw
    case rel=>exact⟨i+1,by omega,by go_num,HG5.o⟩
    case measure=>simp[intOf];omega
  . obtain rfl:i=ids.length:=by omega
    have hd:=HG.o.done;rw[bP] at hd;have HDn:=H9 hd;clear hG hV hd;go_wp2;go_end0
    exact⟨rfl,HDn.o⟩
theorem Tw (h:mD w S L gs s ids told):
 Calls prog 153 #[.pointer (some ⟨L,0,none⟩),.int .i64 0] w fun e w'=>(∃bo gK,e=.returned (.agg #[.int .i64 201,.slice none 0 0,.slice bo told.length gK])∧iH w' bo gK told∧∀a,bo=some a->S a.block)∧aj w w':=by
 obtain⟨κ,io,iM,lo,iL,hH,hS⟩:=h;obtain⟨⟨c0,c1,c2⟩,_⟩:=Zi (hH .row).1;have HB:=H9 (vO.xg (hH .list));have UN:Hid (∀a,lo=some a->S a.block):=fun a e=>by
  rcases hH .list with ⟨h1,_⟩ | ⟨g,h1,_,h2⟩
  . rw[h1] at e;cases e
  . rw[h1] at e;injection e with e;subst e;exact hS g (by rw[h2];intro h;cases h)
 have hlt:L<w.heap.size:=(aL.1 (hH .row).1).1;clear hH hS;go_enter func153,ntmps153;go_wp2;have hb:aj w (w.alloc (.cells #[.int .i64 201,.slice none 0 0,.slice lo told.length iL] 88)):=(fJ _ _).alloc (aM _) _;refine gy (v:=.agg #[.int .i64 201,.slice none 0 0,.slice lo told.length iL]) (by simp[results,results153,go_sem]) rfl ⟨⟨lo,iL,rfl,HB.o.stay hb,UN.o⟩,hb⟩
theorem Tx (c:Nat)(hc:c≠0):
 Calls prog 153 #[.pointer (some ⟨L,0,none⟩),.int .i64 (c:Int)] w fun e w'=>e=.returned (.agg #[.int .i64 (Gt.stat c:Int),.slice none 0 0,.slice none 0 0])∧aj w w':=by
 have H1:=H9 (fun W=>pY 413 W);have H2:=H9 (fun W=>pY 507 W);have t0:((c:Int)==0)=false:=aS.2 (by omega);by_cases h:c=4
 . subst h;go_enter func153,ntmps153;go_wp2_with fail
   refine(H1.o _).mono ?_;rintro e w1 ⟨rfl,hb⟩;obtain⟨⟨z0,z1,z2,y0,y1,y2⟩,HE⟩:=EG ((hb.block w.heap.size (by simp)).trans (fI w _)) (.int .i64 413) (.slice none 0 0) (.slice none 0 0);have HB:=H9 (then_ ((fJ _ w).alloc (aM _) _) hb);clear hb;go_wp2;generalize (((w1.setCell ⟨w.heap.size,0,none⟩ _).setCell ⟨w.heap.size,1,none⟩ _).setCell ⟨w.heap.size,2,none⟩ _)=wf at *;obtain⟨q0,q1,q2,q3⟩:=HE.o;refine gy (v:=.agg #[.int .i64 413,.slice none 0 0,.slice none 0 0]) (by simp[results,results153,go_sem,q0,q1,q2]) rfl ⟨rfl,HB.o.trans (q3.below (fun k e=>by omega) HB.o.size)⟩
 . have t:((c:Int)==4)=false:=aS.2 (by omega);have hf:Gt.stat c=507:=by unfold Gt.stat;rw[if_neg h]
   rw[hf];go_enter func153,ntmps153;go_wp2_with fail
   refine(H2.o _).mono ?_;rintro e w1 ⟨rfl,hb⟩;obtain⟨⟨z0,z1,z2,y0,y1,y2⟩,HE⟩:=EG ((hb.block w.heap.size (by simp)).trans (fI w _)) (.int .i64 507) (.slice none 0 0) (.slice none 0 0);have HB:=H9 (then_ ((fJ _ w).alloc (aM _) _) hb);clear hb;go_wp2;generalize (((w1.setCell ⟨w.heap.size,0,none⟩ _).setCell ⟨w.heap.size,1,none⟩ _).setCell ⟨w.heap.size,2,none⟩ _)=wf at *;obtain⟨q0,q1,q2,q3⟩:=HE.o;refine gy (v:=.agg #[.int .i64 507,.slice none 0 0,.slice none 0 0]) (by simp[results,results153,go_sem,q0,q1,q2]) rfl ⟨rfl,HB.o.trans (q3.below (fun k e=>by omega) HB.o.size)⟩
end
structure QX (S:Nat->Prop)(w:World)(gs:Nat)(r:Sr.Sh×Gt.zk)(e:Ending)(w':World):Prop where
 ret:∃(fo:ak) (gM nf:Nat) (bo:ak) (gK nb:Nat),e=.returned (.agg #[.int .i64 (r.2.1:Int),.slice fo nf gM,.slice bo nb gK])∧r.2.2.1.length=nf∧jo w' fo gM nf (gU r.2.2.1)∧r.2.2.2.length=nb∧iH w' bo gK r.2.2.2∧(∀a,fo=some a->gN S w a.block)∧∀a,bo=some a->gN S w a.block
 at_:iI w' (gN S w) gs r.1
 turns:Turns S w w'
section
variable {w w0 W W':World} {S S' D:Nat->Prop} {g gs b:Nat} {s:Sr.Sh}
structure Bl (S:Nat->Prop)(w:World)(gs:Nat)(s:Sr.Sh)(b:Nat)(o:Obj)(W:World):Prop where
 box:W.heap[b]? = some o
 new:w.heap.size<=b
 st:iI W (fun k=>gN S w k∧k≠b) gs s
 turns:Turns S w W
theorem Bl.ends {x0 x1 x2:Value}(h:Bl S w gs s b (.cells #[x0,x1,x2] 88 (0,0)) W){st:Nat}{mF:Int}(hst:(st:Int)=mF){l:au}{body:av}{fo bo:ak}{gM nf gK nb:Nat}(hn:l.length=nf)(hF:jo W fo gM nf (gU l))(hFb:∀a,fo=some a->gN S w a.block∧a.block≠b)(hm:body.length=nb)(hB:iH W bo gK body)(hBb:∀a,bo=some a->gN S w a.block∧a.block≠b):
 (W.cell? ⟨b,0,none⟩=some x0∧W.cell? ⟨b,1,none⟩=some x1∧W.cell? ⟨b,2,none⟩=some x2∧W.frozen? ⟨b,0,none⟩=false∧W.frozen? ⟨b,1,none⟩=false∧W.frozen? ⟨b,2,none⟩=false) ∧
 Hid ((((W.setCell ⟨b,0,none⟩ (.int .i64 mF)).setCell ⟨b,1,none⟩ (.slice fo nf gM)).setCell ⟨b,2,none⟩ (.slice bo nb gK)).cell? ⟨b,0,none⟩=some (.int .i64 mF)∧(((W.setCell ⟨b,0,none⟩ (.int .i64 mF)).setCell ⟨b,1,none⟩ (.slice fo nf gM)).setCell ⟨b,2,none⟩ (.slice bo nb gK)).cell? ⟨b,1,none⟩=some (.slice fo nf gM)∧(((W.setCell ⟨b,0,none⟩ (.int .i64 mF)).setCell ⟨b,1,none⟩ (.slice fo nf gM)).setCell ⟨b,2,none⟩ (.slice bo nb gK)).cell? ⟨b,2,none⟩=some (.slice bo nb gK)∧QX S w gs (s,(st,l,body)) (.returned (.agg #[.int .i64 mF,.slice fo nf gM,.slice bo nb gK])) (((W.setCell ⟨b,0,none⟩ (.int .i64 mF)).setCell ⟨b,1,none⟩ (.slice fo nf gM)).setCell ⟨b,2,none⟩ (.slice bo nb gK))):=by
 subst hst;obtain⟨h1,h2⟩:=EG h.box (.int .i64 (st:Int)) (.slice fo nf gM) (.slice bo nb gK);obtain⟨q0,q1,q2,q3⟩:=h2.out;refine⟨h1,q0,q1,q2,⟨⟨fo,gM,nf,bo,gK,nb,rfl,hn,hF.turns q3 (fun a e=>(hFb a e).2),hm,hB.turns q3 (fun a e=>(hBb a e).2),fun a e=>(hFb a e).1,fun a e=>(hBb a e).1⟩,(h.st.turns q3 (fun k e e2=>e.2 e2)).mono (fun k _ e=>e.1),h.turns.trans q3 (fun k e hk=>?_)⟩⟩;have:=h.new;omega
theorem Bl.did {o:Obj}{s':Sr.Sh}(h:Bl S w gs s b o W)(hA:iI W' (gN (fun k=>gN S w k∧k≠b) W) gs s')(hT:Turns (fun k=>gN S w k∧k≠b) W W'):Bl S w gs s' b o W':=by
 have hz:=h.turns.size;have hlt:b<W.heap.size:=(aL.1 h.box).1;refine⟨hT.row h.box (fun e=>e.2 rfl),h.new,hA.mono (fun k _ e=>?_),h.turns.trans hT (fun k e hk=>?_)⟩
 . rcases e with e | e
   . exact e
   . exact⟨Or.inr (by omega),by omega⟩
 . rcases e.1 with e | e
   . exact e
   . omega
theorem Bl.stay {o:Obj}(h:Bl S w gs s b o W)(hb:aj W W'):Bl S w gs s b o W' :=
 ⟨(hb.block b (aL.1 h.box).1).trans h.box,h.new,h.st.stay hb,h.turns.trans (Turns.of_below (S:=fun _=>False) hb) (fun _ e _=>e.elim)⟩
theorem Bl.start (h:iI w S gs s)(z o:Obj):Bl S w gs s (w.heap.size+1) o ((w.alloc z).alloc o)∧((w.alloc z).alloc o).heap[w.heap.size]? = some z:=by
 have hb1:=(fJ _ w).alloc (aM _) z;have hb2:=(fJ _ (w.alloc z)).alloc (aM _) o;have hz:(w.alloc z).heap.size=w.heap.size+1:=fZ ..;refine⟨⟨?_,by omega,?_,Turns.of_below (then_ hb1 hb2)⟩,?_⟩
 . have:=fI (w.alloc z) o;rw[hz] at this;exact this
 . exact((h.mono (S':=fun k=>gN S w k∧k≠w.heap.size+1) (fun k hk e=>⟨Or.inl e,by omega⟩)).stay hb1).stay hb2
 . exact(hb2.block w.heap.size (by omega)).trans (fI w z)
theorem mD.sync {L:Nat}{ids:List Int}{told:av}(h:mD w S L gs s ids told):Calls prog 121 #[.pointer (some ⟨gs,0,none⟩)] w fun e w'=>e=.returned (.tuple #[])∧mD w' (gN S w) L gs (Sr.sync s) ids told∧Turns S w w':=by
 obtain⟨κ,io,iM,lo,iL,hH,hS⟩:=h;exact(oU (hH .jS)).mono (fun e w' ⟨he,hA,hT⟩=>⟨he,⟨_,io,iM,lo,iL,JF lQ.nG lQ.nG hH (iI.mono hA (fun k _ e=>Or.inl e)) hT,wT (fun k e=>Or.inl (hS k e)) (aM _)⟩,hT.mono (fun k e=>hS k (by rw[e];intro h;cases h))⟩)
theorem mD.jS {L:Nat}{ids:List Int}{told:av}(h:mD w S L gs s ids told):iI w S gs s:=by
 obtain⟨κ,io,iM,lo,iL,hH,hS⟩:=h;exact iI.mono (hH .jS) (fun k _ e=>hS k (by rw[e];intro h;cases h))
theorem mD.cell0 {L:Nat}{ids:List Int}{told:av}(h:mD w S L gs s ids told):w.cell? ⟨L,0,none⟩=some (.pointer (some ⟨gs,0,none⟩)):=by
 obtain⟨κ,io,iM,lo,iL,hH,hS⟩:=h;exact fK _ _ 0 _ _ _ (hH .row).1
structure Pg (S:Nat->Prop)(w:World)(gs b L:Nat)(o:Obj)(B:World)(s:Sr.Sh)(ids:List Int)(told:av)(W:World):Prop where
 land:mD W (gN (fun k=>(S k∧k<w.heap.size)∨k=L) B) L gs s ids told
 turns:Turns (fun k=>(S k∧k<w.heap.size)∨k=L) B W
 box:W.heap[b]? = some o
theorem Pg.did {L:Nat}{o:Obj}{B:World}{s':Sr.Sh}{ids Me:List Int}{told told':av}(h:Pg S w gs b L o B s ids told W)(hb:w.heap.size<=b)(hL:b<L)(hB:L<B.heap.size)(hA:mD W' (gN (gN (fun k=>(S k∧k<w.heap.size)∨k=L) B) W) L gs s' Me told')(hT:Turns (gN (fun k=>(S k∧k<w.heap.size)∨k=L) B) W W'):Pg S w gs b L o B s' Me told' W':=by
 have hz:=h.turns.size;refine⟨hA.mono (fun k _ e=>?_),h.turns.then_ hT,hT.row h.box (fun e=>?_)⟩
 . rcases e with e | e
   . exact e
   . exact Or.inr (by omega)
 . rcases e with (e | e) | e
   . have:=e.2;omega
   . omega
   . omega
theorem Pg.bx {L:Nat}{o:Obj}{B:World}{ids:List Int}{told:av}(h:Pg S w gs b L o B s ids told W)(hb:w.heap.size<=b)(hL:b<L)(hB:L<B.heap.size)(hw:aj w B):Bl S w gs s b o W:=by
 have hz:=h.turns.size;refine⟨h.box,hb,h.land.jS.mono (fun k _ e=>?_),(Turns.of_below hw).trans h.turns (fun k e hk=>?_)⟩
 . rcases e with (e | e) | e
   . exact⟨Or.inl e.1,by have:=e.2;omega⟩
   . exact⟨Or.inr (by omega),by omega⟩
   . exact⟨Or.inr (by omega),by omega⟩
 . rcases e with e | e
   . exact e.1
   . omega
theorem mD.begin_ {n:Nat}(h:iI w (fun k=>S k∧k<n) gs s)(hn:n<=w.heap.size):mD (w.alloc (.cells #[.pointer (some ⟨gs,0,none⟩),.slice none 0 0,.slice none 0 0] 214)) (fun k=>S k∧k<n∨k=w.heap.size) w.heap.size gs s [] []:=by
 have hb:=(fJ _ w).alloc (aM _) (.cells #[.pointer (some ⟨gs,0,none⟩),.slice none 0 0,.slice none 0 0] 214);classical
 refine⟨fun k=>if k=w.heap.size then .row else if S k∧k<n then .jS else .out,none,0,none,0,fun d=>?_,fun k hk=>?_⟩
 . cases d with
   | row=>exact⟨fI w _,if_pos rfl⟩
   | jS=>exact iI.mono (h.stay hb) (fun k _ e=>by
    show(if k=w.heap.size then OM.row else if S k∧k<n then .jS else .out)=.jS;rw[if_neg (by have:=e.2;omega),if_pos e])
   | ids=>exact⟨gV.nil _ _ _ _,fun a e=>by cases e⟩
   | list=>exact vO.nil _ _
   | box=>exact trivial
   | out=>exact trivial
 . simp only at hk;by_cases h1:k=w.heap.size
   . exact Or.inr h1
   . rw[if_neg h1] at hk;by_cases h2:S k∧k<n
     . exact Or.inl h2
     . rw[if_neg h2] at hk;exact absurd rfl hk
end
section
variable {w w0:World} {S:Nat->Prop} {g gs:Nat} {s:Sr.Sh}
theorem jD (S:Nat->Prop)(w:World)(b:Nat):∀a,(none:ak)=some a->gN S w a.block∧a.block≠b:=fun a e=>by cases e
theorem XF (p:wS w0 w S)(h:iI w S gs s)(ok:Sr.Ok s)(hg:w.cell? ⟨g,0,none⟩=some (.pointer (some ⟨gs,0,none⟩))){m t:ay}{mi ln:Int}{l:au}{fo:ak}{gM nf:Nat}(hF:pX w l fo gM nf)(body:av){bo:ak}{gK nb:Nat}(hb:body.length=nb)(hB:iH w bo gK body)(hnb:nb<=20000):
 Calls prog 110 #[.pointer (some ⟨g,0,none⟩),.agg #[.string m,.string t,.int .i64 mi,.slice fo nf gM,.int .i64 ln,.slice bo nb gK]] w fun e w'=>QX S w gs (Gt.land s l body) e w':=by
 obtain⟨R,hR⟩:∃R,R=Gt.land s l body:=⟨_,rfl⟩;rw[<-hR];obtain⟨hX,Ca⟩:=Bl.start h (.cells #[.string m,.string t,.int .i64 mi,.slice fo nf gM,.int .i64 ln,.slice bo nb gK] 75) (.cells #[.int .i64 0,.slice none 0 0,.slice none 0 0] 88);have Zc:g<w.heap.size:=gq w _ hg;have hbb:aj w ((w.alloc (.cells #[.string m,.string t,.int .i64 mi,.slice fo nf gM,.int .i64 ln,.slice bo nb gK] 75)).alloc (.cells #[.int .i64 0,.slice none 0 0,.slice none 0 0] 88)):=then_ ((fJ _ w).alloc (aM _) _) ((fJ _ _).alloc (aM _) _);have YA:=H9 (EJ (hF.stay hbb));have Ap:Hid (∀W,aj w W->iI W (fun k=>S k∧k<w.heap.size) gs s):=fun W hW=>(h.mono (S':=fun k=>S k∧k<w.heap.size) (fun k hk e=>⟨e,hk⟩)).stay hW;have HIb:Hid (∀W,aj w W->iH W bo gK body):=fun W hW=>hB.stay hW;have HG:Hid (∀W,aj w W->W.cell? ⟨g,0,none⟩=some (.pointer (some ⟨gs,0,none⟩))):=fun W hW=>(hW.cell (p:=⟨g,0,none⟩) Zc).trans hg;have HP:=H9 p;have qy:=H9 ok
 have hs1:((w.alloc (.cells #[.string m,.string t,.int .i64 mi,.slice fo nf gM,.int .i64 ln,.slice bo nb gK] 75)).alloc (.cells #[.int .i64 0,.slice none 0 0,.slice none 0 0] 88)).heap.size=w.heap.size+2:=by simp
 clear h hB hF p ok hg;go_enter func110,ntmps110;go_upto_region 1 with fail
 generalize hW1:((w.alloc (.cells #[.string m,.string t,.int .i64 mi,.slice fo nf gM,.int .i64 ln,.slice bo nb gK] 75)).alloc (.cells #[.int .i64 0,.slice none 0 0,.slice none 0 0] 88))=W1 at *;clear hW1;have a3:=fK W1 _ 3 _ _ _ Ca;simp at a3;have HX:=H9 hX;have F4:=H9 hbb;have HZr:=H9 Ca;have F5:=H9 hs1
 clear hX hbb Ca hs1;go_wp2_with fail
 refine YA.o.mono ?_;rintro e w1 ⟨rfl,hb1⟩;have Tm:=H9 (HX.o.stay hb1);have HB1:=H9 (then_ F4.o hb1);have hsz1:=hb1.size;have a5:w1.cell? ⟨w.heap.size,5,none⟩=some (.slice bo nb gK):=by
  have:=fK w1 _ 5 _ _ _ ((hb1.block w.heap.size (by have:=F5.o;omega)).trans HZr.o);simpa using this
 have aeW:Hid (w.heap.size+2<=w1.heap.size):=by have:=F5.o;unfold Hid;omega
 clear hb1 hsz1 HZr HX YA;cases hbd:Gt.bound l with
 | none =>
   have HR:Hid (R=(s,(415,[],[]))):=hR.trans (Gt.TR hbd);clear hR hbd;have H5:=H9 (fun W=>pY 415 W);simp only[Option.elim,Option.isSome];go_wp2_with fail
   refine(H5.o _).mono ?_;rintro e w2 ⟨rfl,hb2⟩;obtain⟨⟨z0,z1,z2,y0,y1,y2⟩,HE⟩:=(Tm.o.stay hb2).ends (st:=415) (mF:=415) rfl (l:=[]) (body:=[]) rfl (jo.nil _) (jD _ _ _) rfl (iH.nil _) (jD _ _ _);clear hb2;go_wp2;generalize (((w2.setCell ⟨w.heap.size+1,0,none⟩ _).setCell ⟨w.heap.size+1,1,none⟩ _).setCell ⟨w.heap.size+1,2,none⟩ _)=wf at *;obtain⟨q0,q1,q2,q3⟩:=HE.o;refine gy (v:=.agg #[.int .i64 415,.slice none 0 0,.slice none 0 0]) (by simp[results,results110,go_sem,q0,q1,q2]) rfl ?_;rw[HR.o];exact q3
 | some bd =>
   simp only[Option.elim,Option.isSome];have HRd:=H9 (Xv (Gt.txt bd) body bo gK nb w1 (HIb.o _ HB1.o) hb hnb);rw[show(Gt.txt bd).data.toList=bd from by unfold Gt.txt;simp] at HRd;go_wp2_with fail
   refine HRd.o.mono ?_;rintro e w2 hRd;cases hRd with
   | no c hc aeX he hb2 =>
     subst he;have hpn:Gt.parts bd body=none:=by
      unfold Gt.parts;rw[if_neg];rintro ⟨e1,e2⟩;rcases aeX with ⟨h1,_⟩ | ⟨_,h1⟩
      . rw[h1] at e1;cases e1
      . exact hc (by rw[<-h1];exact e2)
     have HR:Hid (R=(s,(400,[],[]))):=hR.trans (Gt.XE hbd hpn);have tc:((c:Int) != 0)=true:=by rw[cZ];omega
     have WV:=H9 (Tm.o.stay hb2);clear hR hbd hpn aeX hb2 hc HRd;have H4:=H9 (fun W=>pY 400 W);go_wp2_with fail
     refine(H4.o _).mono ?_;rintro e w3 ⟨rfl,hb3⟩;obtain⟨⟨z0,z1,z2,y0,y1,y2⟩,HE⟩:=(WV.o.stay hb3).ends (st:=400) (mF:=400) rfl (l:=[]) (body:=[]) rfl (jo.nil _) (jD _ _ _) rfl (iH.nil _) (jD _ _ _);clear hb3;go_wp2;generalize (((w3.setCell ⟨w.heap.size+1,0,none⟩ _).setCell ⟨w.heap.size+1,1,none⟩ _).setCell ⟨w.heap.size+1,2,none⟩ _)=wf at *;obtain⟨q0,q1,q2,q3⟩:=HE.o;refine gy (v:=.agg #[.int .i64 400,.slice none 0 0,.slice none 0 0]) (by simp[results,results110,go_sem,q0,q1,q2]) rfl ?_;rw[HR.o];exact q3
   | yes hm hcl w15 aeY ao cap n he hP hb2 =>
     subst he;obtain⟨ps,hps⟩:∃ps,ps=Fm.pR (lY (Fm.outs (Fm.mark bd) Fm.start body)):=⟨_,rfl⟩;have hpp:Gt.parts bd body=some ps:=by unfold Gt.parts;rw[if_pos ⟨hm,hcl⟩,hps]
     rw[<-hps] at hP;obtain⟨hrm,hpl,hpz⟩:=Gt.Mx hpp (by have:=(wW hm).long;omega) (wW hm).good (by decide) (by rw[hb];exact hnb);have hn:=hP.len;subst hn;have hPD:=hP.aib (fun k e=>dG aeY e);have hB2:=then_ HB1.o hb2;have aiH:Hid (w.heap.size+2<=w2.heap.size):=dG aeW.o hb2.size;have hX2:=Tm.o.stay hb2;have hgc:=HG.o w2 hB2;have HRo:=H9 (OE (hPD.aaU.stay (gQ _ _)) rfl hrm);have EC:Hid (aj w w2.drew):=then_ hB2 (gQ _ _);obtain⟨rm,acM⟩:∃rm,rm=Gt.room ps:=⟨_,rfl⟩;rw[<-acM] at HRo hrm;have O6:=H9 (fun W (hW:aj w W)=>uZ (Ap.o W hW) (rm:Int));obtain⟨bf,hbf⟩:∃bf,bf=decide (100000<s.log.length+rm):=⟨_,rfl⟩;have hrb:(decide ((0:Int)<=(rm:Int))&&decide ((rm:Int)<=100000-(s.log.length:Int)))=!bf:=by
      rw[hbf,aI (by omega:(0:Int)<=(rm:Int)),Bool.true_and,<-decide_not,decide_eq_decide];omega
     rw[hrb] at O6;have Zv:=H9 hbf;have HRe:=H9 acM
     clear hbf acM;have WV:=H9 hX2;have HB2:=H9 hB2;have HPD:=H9 hPD;have HPz:=H9 hpz
     clear hP hps hm hcl aeY hPD hB2 hX2 hpz HRd hb2 Tm HB1 hrb;go_upto_region 7 with fail
     go_cut [31] (fun v wd=>v=.bool bf∧aj w2 wd)
     case first =>
      go_region_held3 (fun W=>W.cell? ⟨g,0,none⟩=some (.pointer (some ⟨gs,0,none⟩))) (go_keep) (first
       | (go_at_call 150;refine HRo.o.mono ?_;rintro e w3 ⟨rfl,hb3⟩;have HB3:Hid (aj w2 w3):=then_ (gQ _ _) hb3;have hg3:=HG.o w3 (then_ HB2.o HB3.o);clear hb3)
       | (go_at_call 129;refine(O6.o _ (then_ HB2.o HB3.o)).mono ?_;rintro e w4 ⟨rfl,hw⟩;subst hw))
      all_goals
       go_wp2;go_meet;exact⟨rfl,HB3.o⟩
     case rest =>
      obtain⟨rfl,hb3⟩:=hcut;have HX3:=H9 (WV.o.stay hb3);have HB3:=H9 hb3
      clear hgc HRo O6 EC WV;cases bf with
      | true =>
        have hfull:100000<s.log.length+rm:=dn Zv.o.symm;have HR:Hid (R=(s,(507,[],[]))):=hR.trans (Gt.TS hbd hpp (by rw[<-HRe.o];exact hfull));clear hR hbd hpp hb3 hfull Zv;have H4:=H9 (fun W=>pY 507 W);go_wp2_with fail
        refine(H4.o _).mono ?_;rintro e w3 ⟨rfl,hb3⟩;obtain⟨⟨z0,z1,z2,y0,y1,y2⟩,HE⟩:=(HX3.o.stay hb3).ends (st:=507) (mF:=507) rfl (l:=[]) (body:=[]) rfl (jo.nil _) (jD _ _ _) rfl (iH.nil _) (jD _ _ _);clear hb3;go_wp2;generalize (((w3.setCell ⟨w.heap.size+1,0,none⟩ _).setCell ⟨w.heap.size+1,1,none⟩ _).setCell ⟨w.heap.size+1,2,none⟩ _)=wf at *;obtain⟨q0,q1,q2,q3⟩:=HE.o;refine gy (v:=.agg #[.int .i64 507,.slice none 0 0,.slice none 0 0]) (by simp[results,results110,go_sem,q0,q1,q2]) rfl ?_;rw[HR.o];exact q3
      | false =>
        have hfull:¬100000<s.log.length+rm:=of_decide_eq_false Zv.o.symm;have HR:Hid (R=Gt.ends (Gt.adds ⟨s,[],[],0⟩ ps)):=hR.trans (Gt.TU hbd hpp (by rw[<-HRe.o];exact hfull));have hgc:=HG.o wc (then_ HB2.o hb3);have hz3:=hb3.size;have hz2:=HB2.o.size
        have hL0:=mD.begin_ (Ap.o wc (then_ HB2.o hb3)) (by omega);have hbL:=(fJ _ wc).alloc (aM _) (.cells #[.pointer (some ⟨gs,0,none⟩),.slice none 0 0,.slice none 0 0] 214);have ae0:F8 (wc.alloc (.cells #[.pointer (some ⟨gs,0,none⟩),.slice none 0 0,.slice none 0 0] 214)) (fun k=>w1.heap.size<=k∧k<w2.heap.size) ao cap ps:=HPD.o.turns (Turns.of_below (S:=fun _=>False) (then_ hb3 hbL)) (fun _ _ e=>e);have hwB:aj w (wc.alloc (.cells #[.pointer (some ⟨gs,0,none⟩),.slice none 0 0,.slice none 0 0] 214)):=then_ (then_ HB2.o hb3) hbL;have hpw:wS w0 (wc.alloc (.cells #[.pointer (some ⟨gs,0,none⟩),.slice none 0 0,.slice none 0 0] 214)) (fun k=>(S k∧k<w.heap.size)∨k=wc.heap.size):=⟨HP.o.pow,HP.o.vN.trans (hwB.mono HP.o.vN.size),fun k e=>by
         rcases e with e | e
         . exact HP.o.far k e.1
         . have:=HP.o.vN.size;omega⟩
        have HAA:=H9 (OO hpw ⟨s,[],[],0⟩ hL0 ⟨qy.o,aA _,Or.inl (aA _)⟩ rfl ps ae0 (fun k e=>⟨fun e2=>by
         rcases e2 with e2 | e2
         . have:=e2.2;have:=aeW.o;omega
         . omega,by rw[fZ];omega⟩) rfl hpl HPz.o)
        have HX0:Hid (Pg S w gs (w.heap.size+1) wc.heap.size (.cells #[.int .i64 0,.slice none 0 0,.slice none 0 0] 88) (wc.alloc (.cells #[.pointer (some ⟨gs,0,none⟩),.slice none 0 0,.slice none 0 0] 214)) s [] [] (wc.alloc (.cells #[.pointer (some ⟨gs,0,none⟩),.slice none 0 0,.slice none 0 0] 214))):=⟨hL0.mono (fun k _ e=>Or.inl e),Turns.refl _ _,(HX3.o.stay hbL).box⟩;have HN:Hid (w.heap.size<=w.heap.size+1∧w.heap.size+1<wc.heap.size∧wc.heap.size<(wc.alloc (.cells #[.pointer (some ⟨gs,0,none⟩),.slice none 0 0,.slice none 0 0] 214)).heap.size):=⟨by omega,by have:=aiH.o;have:=hb3.size;omega,by rw[fZ];omega⟩;have HWB:=H9 hwB;have ae1:=Gt.JB ps (r:=⟨s,[],[],0⟩) qy.o;have ae2:=Gt.E8 ps ⟨s,[],[],0⟩;have aiJ:=H9 ae1;have aiK:(Gt.adds ⟨s,[],[],0⟩ ps).ids.length<=1000000:=by simp at ae2;omega
        clear ae2 ae1 hpw ae0 hwB hbL hL0 hR hbd hpp hb3 hfull Zv HRe HX3 HPD HPz hz3 hz2;generalize Gt.adds ⟨s,[],[],0⟩ ps=ra at *;go_upto_region 10 with fail
        generalize hBB:(wc.alloc (.cells #[.pointer (some ⟨gs,0,none⟩),.slice none 0 0,.slice none 0 0] 214))=B at *;clear hBB;go_wp2_with fail
        refine HAA.o.mono ?_;rintro e w5 ⟨rfl,hL5,xQ⟩;have HX5:Hid (Pg S w gs (w.heap.size+1) wc.heap.size (.cells #[.int .i64 0,.slice none 0 0,.slice none 0 0] 88) B ra.s ra.ids ra.told w5):=HX0.o.did HN.o.1 HN.o.2.1 HN.o.2.2 (hL5.mono (fun k _ e=>by
         rcases e with e | e
         . exact Or.inl (Or.inl e)
         . exact Or.inr e)) (xQ.mono (fun k e=>Or.inl e))
        clear hL5 xQ HAA HX0;by_cases hc0:ra.code=0
        . have tc:((ra.code:Int) != 0)=false:=by rw[hc0];rfl
          have HRr:Hid (R=(Sr.sync ra.s,(201,[],ra.told))):=by unfold Hid;rw[HR.o];unfold Gt.ends;rw[if_pos hc0]
          have k0:=HX5.o.land.cell0;have J9:=H9 HX5.o.land.sync;rw[hc0];clear HR hc0 tc;go_wp2_with fail
          refine J9.o.mono ?_;rintro e w6 ⟨rfl,hL6,qZ⟩;have HX6:=H9 (HX5.o.did HN.o.1 HN.o.2.1 HN.o.2.2 hL6 qZ);have HRp:=H9 (Tw HX6.o.land);clear hL6 qZ;go_wp2_with fail
          refine HRp.o.mono ?_;rintro e w7 ⟨⟨bo7,ae4,rfl,hB7,hS7⟩,XG⟩;obtain⟨⟨z0,z1,z2,y0,y1,y2⟩,HE⟩:=((HX6.o.bx HN.o.1 HN.o.2.1 HN.o.2.2 HWB.o).stay XG).ends (st:=201) (mF:=201) rfl (l:=[]) (body:=ra.told) rfl (jo.nil _) (jD _ _ _) rfl hB7 (fun a e=>by
           have:=HN.o;rcases hS7 a e with (h1 | h1) | h1
           . exact⟨Or.inl h1.1,by have:=h1.2;omega⟩
           . exact⟨Or.inr (by omega),by omega⟩
           . exact⟨Or.inr (by omega),by omega⟩)
          clear hB7 hS7 XG;go_wp2;generalize (((w7.setCell ⟨w.heap.size+1,0,none⟩ _).setCell ⟨w.heap.size+1,1,none⟩ _).setCell ⟨w.heap.size+1,2,none⟩ _)=wf at *;obtain⟨q0,q1,q2,q3⟩:=HE.o;refine gy (v:=.agg #[.int .i64 201,.slice none 0 0,.slice bo7 ra.told.length ae4]) (by simp[results,results110,go_sem,q0,q1,q2]) rfl ?_;rw[HRr.o];exact q3
        . have tc:((ra.code:Int) != 0)=true:=by rw[cZ];omega
          have HRr:Hid (R=(Sr.sync (Gt.pq ra.s ra.ids),(Gt.stat ra.code,[],[]))):=by unfold Hid;rw[HR.o];unfold Gt.ends;rw[if_neg hc0]
          have HDa:=H9 (Mf HX5.o.land aiJ.o aiK);have sH:=H9 (fun(W:World)=>Tx (L:=wc.heap.size) (w:=W) ra.code hc0);clear HR hc0;go_wp2_with fail
          refine HDa.o.mono ?_;rintro e w6 ⟨rfl,hL6,qZ⟩;have HX6:=H9 (HX5.o.did HN.o.1 HN.o.2.1 HN.o.2.2 hL6 qZ);have k0:=HX6.o.land.cell0;have J9:=H9 HX6.o.land.sync;clear hL6 qZ;go_wp2_with fail
          refine J9.o.mono ?_;rintro e w7 ⟨rfl,hL7,Cb⟩;have HX7:=H9 (HX6.o.did HN.o.1 HN.o.2.1 HN.o.2.2 hL7 Cb);clear hL7 Cb;go_wp2_with fail
          refine(sH.o _).mono ?_;rintro e w8 ⟨rfl,hb8⟩;obtain⟨⟨z0,z1,z2,y0,y1,y2⟩,HE⟩:=((HX7.o.bx HN.o.1 HN.o.2.1 HN.o.2.2 HWB.o).stay hb8).ends (st:=Gt.stat ra.code) (mF:=(Gt.stat ra.code:Int)) rfl (l:=[]) (body:=[]) rfl (jo.nil _) (jD _ _ _) rfl (iH.nil _) (jD _ _ _);clear hb8;go_wp2;generalize (((w8.setCell ⟨w.heap.size+1,0,none⟩ _).setCell ⟨w.heap.size+1,1,none⟩ _).setCell ⟨w.heap.size+1,2,none⟩ _)=wf at *;obtain⟨q0,q1,q2,q3⟩:=HE.o;refine gy (v:=.agg #[.int .i64 (Gt.stat ra.code:Int),.slice none 0 0,.slice none 0 0]) (by simp[results,results110,go_sem,q0,q1,q2]) rfl ?_;rw[HRr.o];exact q3
end
section
variable {w w0:World} {S:Nat->Prop} {g gs:Nat} {s:Sr.Sh}
theorem Z4 (t:ay):Tu.ours t=Gt.ours t:=rfl
theorem Ph (p:wS w0 w S)(h:iI w S gs s)(ok:Sr.Ok s)(hg:w.cell? ⟨g,0,none⟩=some (.pointer (some ⟨gs,0,none⟩))){m t:ay}{mi ln:Int}{l:au}{fo:ak}{gM nf:Nat}(hF:pX w l fo gM nf)(body:av){bo:ak}{gK nb:Nat}(hb:body.length=nb)(hB:iH w bo gK body)(hnb:nb<=20000)(ht:t.size<=100000):
 Calls prog 66 #[.pointer (some ⟨g,0,none⟩),.agg #[.string m,.string t,.int .i64 mi,.slice fo nf gM,.int .i64 ln,.slice bo nb gK]] w fun e w'=>QX S w gs (Gt.answer Tu.iG s m t l body) e w':=by
 obtain⟨R,hR⟩:∃R,R=Gt.answer Tu.iG s m t l body:=⟨_,rfl⟩;rw[<-hR];unfold Gt.answer at hR;obtain⟨hX,Ca⟩:=Bl.start h (.cells #[.string m,.string t,.int .i64 mi,.slice fo nf gM,.int .i64 ln,.slice bo nb gK] 75) (.cells #[.int .i64 0,.slice none 0 0,.slice none 0 0] 88);have Zc:g<w.heap.size:=gq w _ hg;have hbb:aj w ((w.alloc (.cells #[.string m,.string t,.int .i64 mi,.slice fo nf gM,.int .i64 ln,.slice bo nb gK] 75)).alloc (.cells #[.int .i64 0,.slice none 0 0,.slice none 0 0] 88)):=then_ ((fJ _ w).alloc (aM _) _) ((fJ _ _).alloc (aM _) _);have hs1:((w.alloc (.cells #[.string m,.string t,.int .i64 mi,.slice fo nf gM,.int .i64 ln,.slice bo nb gK] 75)).alloc (.cells #[.int .i64 0,.slice none 0 0,.slice none 0 0] 88)).heap.size=w.heap.size+2:=by simp
 have HOu:=H9 (fun W=>Sz t W ht);have HBa:=H9 (fun st W=>pY st W);go_enter func66,ntmps66;go_upto_region 1 with fail
 generalize hW1:((w.alloc (.cells #[.string m,.string t,.int .i64 mi,.slice fo nf gM,.int .i64 ln,.slice bo nb gK] 75)).alloc (.cells #[.int .i64 0,.slice none 0 0,.slice none 0 0] 88))=W1 at *;clear hW1;have a0:W1.cell? ⟨w.heap.size,0,none⟩=some (.string m):=fK W1 _ 0 _ _ _ Ca;have a1:W1.cell? ⟨w.heap.size,1,none⟩=some (.string t):=fK W1 _ 1 _ _ _ Ca;have a2:W1.cell? ⟨w.heap.size,2,none⟩=some (.int .i64 mi):=fK W1 _ 2 _ _ _ Ca;have a3:W1.cell? ⟨w.heap.size,3,none⟩=some (.slice fo nf gM):=fK W1 _ 3 _ _ _ Ca;have a4:W1.cell? ⟨w.heap.size,4,none⟩=some (.int .i64 ln):=fK W1 _ 4 _ _ _ Ca;have a5:W1.cell? ⟨w.heap.size,5,none⟩=some (.slice bo nb gK):=fK W1 _ 5 _ _ _ Ca;have hg1:W1.cell? ⟨g,0,none⟩=some (.pointer (some ⟨gs,0,none⟩)):=(hbb.cell (p:=⟨g,0,none⟩) Zc).trans hg;have TV:=hX.st;have hF1:=hF.stay hbb;have hB1:=hB.stay hbb;have hp1:wS w0 W1 (fun k=>gN S w k∧k≠w.heap.size+1):=⟨p.pow,p.vN.trans (hbb.mono p.vN.size),fun k e=>by
  rcases e.1 with e | e
  . exact p.far k e
  . exact dG p.vN.size e⟩
 have HX:=H9 hX;have F5:=H9 hs1
 clear Ca hX hF hB hg h p hs1;rw[show Gt.ours t=Tu.ours t from(Z4 t).symm] at hR;cases ho:Tu.ours t with
 | true =>
   rw[ho,if_pos rfl] at hR;have HDo:=H9 (ZX (m:=m) (t:=t) (mi:=mi) (ln:=ln) (bo:=bo) (gK:=gK) (nb:=nb) (w:=W1.drew) ⟨hp1.pow,then_ hp1.vN (gQ _ _),hp1.far⟩ (TV.stay (gQ _ _)) ok (hF1.stay (gQ _ _)) body hb (hB1.stay (gQ _ _)) (by omega) ht);rw[ho] at HOu;have HR:=H9 hR;generalize Tu.iG s m t l body=tr at *;obtain⟨s2,st2,l2⟩:=tr;clear hR ho TV hF1 hB1 hp1 HBa;go_wp2_with fail
   refine(HOu.o _).mono ?_;rintro e w1 ⟨rfl,hw⟩;subst hw;go_upto_region 2 with fail
   go_cut [] (fun wd=>∃(jL:ak) (n9 iC:Nat),wd.cell? ⟨w.heap.size+1,0,none⟩=some (.int .i64 (st2:Int))∧wd.cell? ⟨w.heap.size+1,1,none⟩=some (.slice jL n9 iC)∧wd.cell? ⟨w.heap.size+1,2,none⟩=some (.slice none 0 0)∧QX S w gs (s2,(st2,l2,[])) (.returned (.agg #[.int .i64 (st2:Int),.slice jL n9 iC,.slice none 0 0])) wd)
   case first =>
    go_region_law (first
     | (go_simp;go_at_call 30;refine HDo.o.mono ?_;rintro e w9 ⟨⟨jL,iC,n9,rfl,lu,jU⟩,kT,sD⟩;have hX9:=(HX.o.stay (gQ _ _)).did kT sD;obtain⟨⟨z0,z1,z2,y0,y1,y2⟩,HE⟩:=hX9.ends (st:=st2) (mF:=(st2:Int)) rfl (l:=l2) (body:=[]) lu jU.nQ (fun a e=>by have h1:w1.heap.size<=a.block:=(jU.block a e).1;have:=F5.o;exact⟨Or.inr (by omega),by omega⟩) rfl (iH.nil _) (jD _ _ _);clear lu jU kT sD hX9))
    all_goals
     go_wp2;go_meet;exact⟨jL,n9,iC,HE.o⟩
   case rest =>
    obtain⟨jL,n9,iC,q0,q1,q2,q3⟩:=hcut;go_wp2;refine gy (v:=.agg #[.int .i64 (st2:Int),.slice jL n9 iC,.slice none 0 0]) (by simp[results,results66,go_sem,q0,q1,q2]) rfl ?_;rw[HR.o];exact q3
 | false =>
   rw[ho,if_neg (by simp)] at hR;rw[ho] at HOu;clear ho;obtain⟨tt,htt⟩:∃tt,(t.toList==([47,102,111,114,109]:av))=tt:=⟨_,rfl⟩;have eT:t=Gt.aaE<->tt=true:=by
    rw[<-htt,aT,Lib.toList_data,ByteArray.ext_iff,<-fH];rfl
   obtain⟨tm,htm⟩:∃tm,(m.toList==([80,79,83,84]:av))=tm:=⟨_,rfl⟩;have eM:m=Gt.GV<->tm=true:=by
    rw[<-htm,aT,Lib.toList_data,ByteArray.ext_iff,<-fH];rfl
   cases tt with
   | false =>
     rw[if_pos (fun e=>by have:=eT.1 e;cases this)] at hR;have HR:=H9 hR;clear hR eT eM TV hF1 hB1 hp1 htm;go_wp2_with fail
     refine(HOu.o _).mono ?_;rintro e w1 ⟨rfl,hw⟩;subst hw;go_wp2_with fail
     refine(HBa.o 404 _).mono ?_;rintro e w3 ⟨rfl,hb3⟩;obtain⟨⟨z0,z1,z2,y0,y1,y2⟩,HE⟩:=(HX.o.stay hb3).ends (st:=404) (mF:=404) rfl (l:=[]) (body:=[]) rfl (jo.nil _) (jD _ _ _) rfl (iH.nil _) (jD _ _ _);clear hb3;go_wp2;generalize (((w3.setCell ⟨w.heap.size+1,0,none⟩ _).setCell ⟨w.heap.size+1,1,none⟩ _).setCell ⟨w.heap.size+1,2,none⟩ _)=wf at *;obtain⟨q0,q1,q2,q3⟩:=HE.o;refine gy (v:=.agg #[.int .i64 404,.slice none 0 0,.slice none 0 0]) (by simp[results,results66,go_sem,q0,q1,q2]) rfl ?_;rw[HR.o];exact q3
   | true =>
     rw[if_neg (fun e=>e (eT.2 rfl))] at hR;clear eT;cases tm with
     | false =>
       rw[if_pos (fun e=>by have:=eM.1 e;cases this)] at hR;have HR:=H9 hR;clear hR eM TV hF1 hB1 hp1;go_wp2_with fail
       refine(HOu.o _).mono ?_;rintro e w1 ⟨rfl,hw⟩;subst hw;go_wp2_with fail
       refine(HBa.o 405 _).mono ?_;rintro e w3 ⟨rfl,hb3⟩;obtain⟨⟨z0,z1,z2,y0,y1,y2⟩,HE⟩:=(HX.o.stay hb3).ends (st:=405) (mF:=405) rfl (l:=[]) (body:=[]) rfl (jo.nil _) (jD _ _ _) rfl (iH.nil _) (jD _ _ _);clear hb3;go_wp2;generalize (((w3.setCell ⟨w.heap.size+1,0,none⟩ _).setCell ⟨w.heap.size+1,1,none⟩ _).setCell ⟨w.heap.size+1,2,none⟩ _)=wf at *;obtain⟨q0,q1,q2,q3⟩:=HE.o;refine gy (v:=.agg #[.int .i64 405,.slice none 0 0,.slice none 0 0]) (by simp[results,results66,go_sem,q0,q1,q2]) rfl ?_;rw[HR.o];exact q3
     | true =>
       rw[if_neg (fun e=>e (eM.2 rfl))] at hR;have HR:=H9 hR;have HFm:=H9 (XF (g:=g) (m:=m) (t:=t) (mi:=mi) (ln:=ln) hp1 TV ok hg1 hF1 body hb hB1 hnb);generalize Gt.land s l body=tr at *;obtain⟨s2,st2,l2,b2⟩:=tr;clear hR eM TV hF1 hB1 hp1 HBa;go_wp2_with fail
       refine(HOu.o _).mono ?_;rintro e w1 ⟨rfl,hw⟩;subst hw;go_wp2_with fail
       refine HFm.o.mono ?_;rintro e w9 ⟨⟨fo9,ae6,nf9,bo9,ae7,nb9,rfl,lu,hF9,hm9,oC,hf9,hb9⟩,kT,sD⟩;have hno:∀k,gN (fun k=>gN S w k∧k≠w.heap.size+1) w1 k->gN S w k∧k≠w.heap.size+1:=fun k e=>by
        have:=F5.o;rcases e with e | e
        . exact e
        . exact⟨Or.inr (by omega),by omega⟩
       obtain⟨⟨z0,z1,z2,y0,y1,y2⟩,HE⟩:=(HX.o.did kT sD).ends (st:=st2) (mF:=(st2:Int)) rfl (l:=l2) (body:=b2) lu hF9 (fun a e=>hno _ (hf9 a e)) hm9 oC (fun a e=>hno _ (hb9 a e));clear lu hF9 hm9 oC hf9 hb9 kT sD hno;go_wp2;generalize (((w9.setCell ⟨w.heap.size+1,0,none⟩ _).setCell ⟨w.heap.size+1,1,none⟩ _).setCell ⟨w.heap.size+1,2,none⟩ _)=wf at *;obtain⟨q0,q1,q2,q3⟩:=HE.o;refine gy (v:=.agg #[.int .i64 (st2:Int),.slice fo9 nf9 ae6,.slice bo9 nb9 ae7]) (by simp[results,results66,go_sem,q0,q1,q2]) rfl ?_;rw[HR.o];exact q3
end
end Go.Proofs.YtjmndjmhjleabaaGreatDoor