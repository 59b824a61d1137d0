/- Small texts, one behind the other: RfRp, RpC, RpD, GaB, GaC, GaD, GaE, GaF, GaG, GaH, GaI, SlCloneI. -/
import Derived.Deep.RegionHeldLaw
import Derived.Test.YthhklgjjnaeaoaaGreatDoorPk43
open Go.Value renaming int->I,string->V,slice->Z,pointer->Q
open Go.IntKind renaming i64->J
open Go.Obj renaming cells->K
open Go.Ending renaming returned->Y
open Option renaming none->U,some->M
open Bool renaming false->F
open Or renaming inl->A,inr->R
open Go renaming World->X
set_option maxHeartbeats 6400000
set_option maxRecDepth 100000
open Go.Proofs.Tryz
namespace Go.Proofs.YthhklgjjnaeaoaaGreatDoor
open Go.RowKit
def Zl:ay:=⟨#[99,111,110,116,101,110,116,45,108,101,110,103,116,104]⟩
def Rp.out (st:Int)(l:au)(body:av):av×Nat:=Rp.text st l (Fd.vals Zl l).length body
inductive adK (w:X)(r:av×Nat)(e:Ending)(w':X):Prop
 | bad (c:Nat) (hc:c≠0) (he:e=Y (.tuple #[Z U 0 0,I J (c:Int)])) (ht:r=([],c)) (hB:Below w.heap.size w w')
 | ok (g cap n:Nat) (he:e=Y (.tuple #[Z (M ⟨g,0,U⟩) n cap,I J 0])) (hn:n=r.1.length) (ht:r.2=0) (hO:Buf w' w.heap.size g cap r.1) (hB:Below w.heap.size w w')
theorem D9 (p:ay×ay)(h:p.1.size<=2000∧p.2.size<=2000):(Rp.jB p).length<=4004:=by
 have a:p.1.data.toList.length=p.1.size:=by rw[aO];rfl
 have b:p.2.data.toList.length=p.2.size:=by rw[aO];rfl
 have c:(Fd.text p.1.data.toList p.2.data.toList).1.length<=p.1.data.toList.length+2+p.2.data.toList.length:=by
  unfold Fd.text;split
  . simp
  . split
    . simp
    . split
      . simp
      . simp;omega
 unfold Rp.jB;rw[aV];simp only[aW,bY];omega
theorem Bt:∀(l:au),(∀p∈l,p.1.size<=2000∧p.2.size<=2000)->(l.flatMap Rp.jB).length<=l.length*4004
 | [],_=>by simp
 | p :: t, h => by
   have b:=Bt t (fun q a=>h q (by simp[a]));have c:=D9 p (h p (by simp));rw[aU,aV,aW];omega
theorem Rp.Gy (p:ay×ay)(h:(Fd.text p.1.data.toList p.2.data.toList).2=0):∀l:au,Rp.code (l++[p])=Rp.code l
 | []=>by simp[Rp.code,h]
 | q::t=>by rw[dR,Rp.code,Rp.code,Rp.Gy p h t]
theorem KT (l:au):Fd.vals Wy l=Fd.vals Zl l:=by
 unfold Fd.vals;rw[show Ch.lower Wy.data.toList=Ch.lower Zl.data.toList by decide]
def KU (nb:Nat):ay×ay:=(Wy,⟨(Ch.iV 8 nb).toArray⟩)
theorem Wz {nb:Nat}(h:nb<1000000000):(Fd.text (KU nb).1.data.toList (KU nb).2.data.toList).2=0:=(Rp.Cj h).1
theorem WA {nb:Nat}(h:nb<1000000000):Rp.jB (KU nb)=Rp.cl++Ch.iV 8 nb++[13,10]:=by
 unfold Rp.jB;have:=(Rp.Cj h).2;rw[show(KU nb).1.data.toList=Rp.MB from rfl,show(KU nb).2.data.toList=Ch.iV 8 nb from rfl,this]
theorem Rp.Sq {st:Int}{l:au}{body:av}(h:Rp.fault st l≠0):Rp.out st l body=([],Rp.fault st l):=by
 unfold Rp.fault at h ⊢;unfold Rp.out Rp.text;rw[KT] at h ⊢;split
 . rfl
 . rename_i a;rw[if_neg a] at h;split
   . rfl
   . rename_i b;rw[if_neg b] at h;split
     . rfl
     . rename_i c;rw[if_neg c] at h;exact absurd rfl h
theorem Rp.WB {st:Int}{l:au}{body:av}(h:Rp.fault st l=0)(b:body.length<1000000000):Rp.word st≠[]∧l.length<16∧Rp.out st l body=if Rp.code (l++[KU body.length])≠0 then ([],Rp.code (l++[KU body.length])) else (Rp.first st++(l++[KU body.length]).flatMap Rp.jB++[13,10]++body,0):=by
 rw[Rp.Gy _ (Wz b),List.flatMap_append];unfold Rp.fault at h;unfold Rp.out Rp.text;rw[KT] at h;by_cases a:Rp.word st=[]
 . rw[if_pos a] at h;cases h
 rw[if_neg a] at h ⊢;by_cases c:16<=l.length
 . rw[if_pos c] at h;cases h
 rw[if_neg c] at h ⊢;by_cases d:(Fd.vals Zl l).length≠0
 . rw[if_pos d] at h;cases h
 rw[if_neg d];refine⟨a,by omega,?_⟩;split
 . rfl
 . congr 1;simp[WA b]
structure KW (w:X)(cs:Array Value)(T:Nat)(ls:au)(ao:ak)(iB g cap:Nat)(acc:av)(W:X):Prop where
 one:lZ w cs T W
 buf:Buf W (w.heap.size+1) g cap acc
 row:ji W ao iB ls.length (gG ls)
 apart:∀a,ao=M a->a.block≠g∧a.block<W.heap.size
theorem KW.stay {w W W':X}{d:Array Value}{T:Nat}{f:au}{ao:ak}{i g cap:Nat}{b:av}(h:KW w d T f ao i g cap b W)(c:Below W.heap.size W W'):KW w d T f ao i g cap b W' :=
 ⟨h.one.stay c,h.buf.keep c,h.row.stay c,fun a e=>⟨(h.apart a e).1,bZ (h.apart a e).2 c.size⟩⟩
theorem KW.grow {w W W':X}{l:Array Value}{T:Nat}{m:au}{ao:ak}{n g cap d b:Nat}{f c:av}(h:KW w l T m ao n g cap f W)(o:Buf W' (w.heap.size+1) d b c)(i:Turns (fun k=>k=g) W W')(j:d=g∨d=W.heap.size):KW w l T m ao n d b c W':=by
 have p:=h.buf.rD;refine⟨h.one.turns i (fun k e=>by omega),o,h.row.turns i (fun a e=>(h.apart a e).1),fun a e=>⟨fun q=>?_,bZ (h.apart a e).2 i.size⟩⟩;have r:=h.apart a e;rcases j with j | j
 . omega
 . omega
theorem NP (w:X)(st:Int)(l:au)(fo bo:ak)(fZ fU nb:Nat)(body:av)(hl:ji w fo fZ l.length (gG l))(hN:l.length<=1000000)(hs:∀p∈l,p.1.size<=2000∧p.2.size<=2000)(hb:body.length=nb)(hBd:gN w bo fU body)(hnb:nb<=100000)(hP:kD w):
 Calls prog 140 #[.agg #[I J st,Z fo l.length fZ,Z bo nb fU]] w fun e w'=>adK w (Rp.out st l body) e w':=by
 subst hb;obtain⟨j0,hj0,hy0,hy1,hy2⟩:=info_parts jJ;have Hj:=H9 hj0;have NQ:=H9 hy0;have NR:=H9 hy1;have NS:=H9 hy2
 obtain⟨i0,hi0,hz0,hz1,hz2⟩:=info_parts pq;have Hi:=H9 hi0;have kY:=H9 hz0;have kT:=H9 hz1;have kZ:=H9 hz2
 have HV:=H9 hl;have HS:=H9 hs;have zP:=H9 hBd;have HP:=H9 hP
 have N:Hid (∀W,lZ w #[I J st,Z fo l.length fZ,Z bo body.length fU] 109 W->W.cell? ⟨w.heap.size,0,U⟩=M (I J st)∧W.cell? ⟨w.heap.size,1,U⟩=M (Z fo l.length fZ)∧W.cell? ⟨w.heap.size,2,U⟩=M (Z bo body.length fU)):=fun W h=>⟨h.cell 0,h.cell 1,h.cell 2⟩;have H0:=H9 (lZ.made w #[I J st,Z fo l.length fZ,Z bo body.length fU] 109);have S:=H9 (NM _ st l fo bo fZ fU body.length (hl.stay H0.o.below) hN hs);have hwl:=Rp.JV st;clear hl hs hBd hj0 hy0 hy1 hy2 hi0 hz0 hz1 hz2 hP;obtain⟨u,x1,x2⟩:=N.o _ H0.o;by_cases x:Rp.fault st l=0
 . obtain⟨hwd,h16,hout⟩:=Rp.WB (body:=body) x (by omega);have HT:=H9 hout;rw[x] at S;clear hout x;obtain⟨hs1,hs2⟩:=Rp.Vk hwd;obtain⟨b,rfl⟩:∃b:Nat,st=(b:Int):=⟨st.toNat,by omega⟩;have Zk:Hid (∀W,Calls prog 189 #[I J (b:Int)] W fun e w'=>e=Y (V ⟨(Rp.word b).toArray⟩)∧w'=W):=fun W=>D8 b W;have hwz:(⟨(Rp.word b).toArray⟩:ay).size<=22:=by show(Rp.word b).toArray.size<=22;rw[bK];exact hwl
   have HWd:Hid ((⟨(Rp.word b).toArray⟩:ay).data.toList=Rp.word b):=rfl;have HNm:Hid (∀W,lZ w #[I J (b:Int),Z fo l.length fZ,Z bo body.length fU] 109 W->Calls prog 151 #[I J (b:Int)] W fun e w'=>e=Y (V ⟨(Ch.iV 8 b).toArray⟩)∧Below W.heap.size W w'):=fun W h=>pz b (by omega) W (HP.o.stay h.below);have Zg:Hid (∀W,lZ w #[I J (b:Int),Z fo l.length fZ,Z bo body.length fU] 109 W->Calls prog 151 #[I J (body.length:Int)] W fun e w'=>e=Y (V (KU body.length).2)∧Below W.heap.size W w'):=fun W h=>pz body.length (by omega) W (HP.o.stay h.below);have hdl:=Ch.jm 8 b;have hdz:(⟨(Ch.iV 8 b).toArray⟩:ay).size<=9:=by show(Ch.iV 8 b).toArray.size<=9;rw[bK];omega
   have HDd:Hid ((⟨(Ch.iV 8 b).toArray⟩:ay).data.toList=Ch.iV 8 b):=rfl;have agc:=Ch.jm 8 body.length;have hpz:(KU body.length).2.size<=9:=by show(Ch.iV 8 body.length).toArray.size<=9;rw[bK];omega
   have HPc:Hid (∀p∈l++[KU body.length],p.1.size<=2000∧p.2.size<=2000):=fun p T=>by
    rcases bq.1 T with T | T
    . exact HS.o p T
    . rw[bA.1 T];exact⟨by show Wy.size<=2000;decide,by omega⟩
   have NT:Hid ((l++[KU body.length]).length=l.length+1):=by unfold Hid;simp
   have HPV:Hid (gG (l++[KU body.length])=gG l++[V Wy,V (KU body.length).2]):=by unfold Hid;simp[gG,KU]
   generalize agd:(KU body.length).2=y at *;generalize B:l++[KU body.length]=c at *;clear agd B;generalize (⟨(Rp.word b).toArray⟩:ay)=wd at *;generalize (⟨(Ch.iV 8 b).toArray⟩:ay)=db at *;clear hwd hwl hdl agc;obtain⟨z,hz⟩:∃z:ay,z=⟨#[72,84,84,80,47,49,46,49,32]⟩++db++⟨#[32]⟩++wd++⟨#[13,10]⟩:=⟨_,rfl⟩;have hzs:z.size=9+db.size+1+wd.size+2:=by rw[hz];simp only[bL];rfl
   have hzd:z.data.toList=Rp.first b:=by rw[hz];simp only[Ch.data_append,HDd.o,HWd.o];rfl
   have s:=fun W=>Iw (P:=prog) W z 9 31 5 (by unfold maxLen;omega) underlying9 underlying31 underlying5;obtain⟨adL,s⟩:=Classical.skolem.1 s;obtain⟨wF,s⟩:=Classical.skolem.1 s;have hcv:=fun W=>(s W).1;have HBf:Hid (∀W,Below W.heap.size W (wF W)∧Buf (wF W) W.heap.size W.heap.size (adL W) (Rp.first b)):=fun W=>by have:=(s W).2;rw[hzd] at this;exact this
   obtain⟨zn,hzn⟩:∃zn,z.size=zn:=⟨_,rfl⟩;have HZl:Hid ((Rp.first b).length=zn):=by unfold Hid;rw[<-hzd,aO];exact hzn
   have hzl:zn<=60:=by omega
   rw[hzn] at hcv;rw[hz] at hcv;clear s hzs hzd hz hzn;go_enter func140,ntmps140;go_wp2_with fail
   refine S.o.mono ?_;rintro e w1 ⟨rfl,m⟩;have BZ:=H9 (H0.o.stay m);clear m H0 u x1 x2 S;obtain⟨u,x1,x2⟩:=N.o w1 BZ.o;go_upto_region 4 with fail
   go_cut [5] (fun v wc=>∃g r,v=Z (M ⟨g,0,U⟩) zn r∧Buf wc (w.heap.size+1) g r (Rp.first b)∧lZ w #[I J (b:Int),Z fo l.length fZ,Z bo body.length fU] 109 wc)
   case first =>
    have C:=H9 (BZ.o.stay (gy _ _));have HK2:Hid (∀W,lZ w #[I J (b:Int),Z fo l.length fZ,Z bo body.length fU] 109 W->(wF W).cell? ⟨w.heap.size,0,U⟩=M (I J (b:Int))):=fun W h=>(N.o _ (h.stay (HBf.o W).1)).1;have JB:Hid (∀W,lZ w #[I J (b:Int),Z fo l.length fZ,Z bo body.length fU] 109 W->Buf (wF W) (w.heap.size+1) W.heap.size (adL W) (Rp.first b)∧lZ w #[I J (b:Int),Z fo l.length fZ,Z bo body.length fU] 109 (wF W)):=fun W h=>by
     have t:=(HBf.o W).2;exact⟨⟨h.lt,t.lt,t.le,t.max,t.holds,t.there⟩,h.stay (HBf.o W).1⟩
    go_region_held (fun W=>W.cell? ⟨w.heap.size,0,U⟩=M (I J (b:Int))) (first | exact HK2.o _ C.o | go_keep) (first
     | (go_at_call 151;refine(HNm.o _ C.o).mono ?_;rintro e v1 ⟨rfl,m⟩;have Yr:=C.o.stay m;clear C;have C:=H9 Yr;have q0:=(N.o v1 Yr).1;clear Yr m)
     | (go_at_call 189;refine(Zk.o _).mono ?_;rintro e v1 ⟨rfl,hv1⟩;subst hv1))
    all_goals
     (try go_wp2);go_meet;obtain⟨f1,f2⟩:=JB.o _ C.o;exact⟨_,_,rfl,f1,f2⟩
   case rest =>
    obtain⟨g,r,rfl,t,hOc⟩:=hcut;have HU:=H9 t;have HOc:=H9 hOc
    clear u x1 x2 t hOc BZ Zk HNm HBf hcv HDd HWd hwz hdz;obtain⟨u,x1,x2⟩:=N.o wc HOc.o;go_wp2_with fail
    refine(Zg.o _ HOc.o).mono ?_;rintro e w2 ⟨rfl,hb2⟩;have IJ:=H9 (HOc.o.stay hb2);have HU2:=H9 (HU.o.keep hb2)
    clear u x1 x2 hb2 HU HOc Zg;obtain⟨u,x1,x2⟩:=N.o w2 IJ.o;have hOb:=IJ.o.stay ((eY _ w2).alloc (aM _) (K #[V ⟨#[67,111,110,116,101,110,116,45,76,101,110,103,116,104]⟩,V y] 131));have hUb:=HU2.o.alloc (K #[V ⟨#[67,111,110,116,101,110,116,45,76,101,110,103,116,104]⟩,V y] 131);have y0:=prNew w2 ⟨#[67,111,110,116,101,110,116,45,76,101,110,103,116,104]⟩ y 131 rfl 0 _ rfl;have y1:=prNew w2 ⟨#[67,111,110,116,101,110,116,45,76,101,110,103,116,104]⟩ y 131 rfl 1 _ rfl;rw[fQ,aZ] at y0 y1;go_upto_region 6 with fail
    have hgw:=HU2.o.lt;have IQ:Hid (g<(w2.alloc (K #[V ⟨#[67,111,110,116,101,110,116,45,76,101,110,103,116,104]⟩,V y] 131)).heap.size):=hUb.lt;clear u x1 x2 HU2 IJ hgw;generalize (w2.alloc (K #[V ⟨#[67,111,110,116,101,110,116,45,76,101,110,103,116,104]⟩,V y] 131))=j at *;generalize w2.heap.size=k2 at *;obtain⟨u,x1,x2⟩:=N.o j hOb;have HOb:=H9 hOb;have HUb:=H9 hUb
    have pO:Hid (∀W,Below j.heap.size j W->W.cell? ⟨w.heap.size,1,U⟩=M (Z fo l.length fZ)∧W.cell? ⟨k2,0,U⟩=M (V ⟨#[67,111,110,116,101,110,116,45,76,101,110,103,116,104]⟩)∧W.cell? ⟨k2,1,U⟩=M (V y)):=fun W hW =>
     ⟨(hW.cell (fH j _ x1)).trans x1,(hW.cell (fH j _ y0)).trans y0,(hW.cell (fH j _ y1)).trans y1⟩
    have uT:=H9 (fun W (hW:Below j.heap.size j W)=>uO l fo fZ l.length W (HV.o.stay (then_ hOb.below hW)) rfl hN);clear hOb hUb u x2;go_cut [37,38,39] (fun v37 v38 v39 wd=>∃gf zA,v37=Z (M ⟨gf,0,U⟩) (l.length+1) zA∧v38=I J ((l.length:Int)+1)∧v39=I J 0∧gH wd 0 131 2 (M ⟨gf,0,U⟩) zA (l.length+1) (gG l++[V ⟨#[67,111,110,116,101,110,116,45,76,101,110,103,116,104]⟩,V y])∧j.heap.size<=gf∧Below j.heap.size j wd)
    case first =>
     have Sv:Hid (Below j.heap.size j j.drew):=gy _ _;have Sw:Hid (Below j.heap.size j (j.alloc (K #[V ⟨#[67,111,110,116,101,110,116,45,76,101,110,103,116,104]⟩,V y] 131)).drew):=((eY _ _).alloc (aM _) _).trans (gy _ _);have WC:Hid (l.length+1<=maxLen∧(l.length+1)*32<=140737488355328):=⟨by unfold maxLen;omega,by omega⟩;have Zi:Hid (∀(W:X) (ao:ak) (cp g6:Nat),gH W j.heap.size 131 2 ao cp l.length (gG l)->∀k,j.heap.size<=k->((Value.slice ao l.length cp).ownBlock=M g6∨g6=k)->j.heap.size<=g6):=fun W ao cp g6 hO k hk h=>by
      rcases h with h | h
      . rw[gD] at h;cases ao with
        | none=>cases h
        | some a=>injection h with h;subst h;exact(hO.block a rfl).1
      . omega
     go_region_held_law (fun w'=>w'.cell? ⟨w.heap.size,1,U⟩=M (Z fo l.length fZ)∧w'.cell? ⟨k2,0,U⟩=M (V ⟨#[67,111,110,116,101,110,116,45,76,101,110,103,116,104]⟩)∧w'.cell? ⟨k2,1,U⟩=M (V y)) (first | go_keep | exact HK6.o | exact HK5.o | exact HKA.o) (first
      | (refine step_append_lies _ (by rfl) _ _ _ (by rfl) 0 131 i0 (.agg #[V ⟨#[]⟩,V ⟨#[]⟩]) 2 32 underlying80 Hi.o kY.o kT.o kZ.o (by rfl) (by decide) (Z xY l.length D) l.length (gG l) (by rfl) ((zk.o.mono (aA _)).alloc _) ⟨w5.heap.size,0,U⟩ 1 1 [V ⟨#[67,111,110,116,101,110,116,45,76,101,110,103,116,104]⟩,V y] (by rfl) (by rfl) (prNew _ _ _ _ rfl) (IG _ _) (by decide) WC.o.1 WC.o.2 (aA _) (w5.heap.size+1) (by simp) ?_;intro g6 cap6 w6 d f uR NU;have Yt:=H9 d;have xA:=H9 (Qo (L.o.trans ((eY _ _).alloc L.o.size _)) zk.o f (aM _));have HG6:=H9 (Zi.o _ _ _ g6 zk.o _ (Nat.le_succ_of_le L.o.size) uR);have HK6:=H9 (pO.o w6 xA.o);clear d f uR NU;(try simp only[Act.put,List.getElem_toArray,List.getElem_cons_succ,List.getElem_cons_zero,List.setIfInBounds_toArray,dS,List.set_cons_succ]))
      | (refine step_append_lies _ (by rfl) _ _ _ (by rfl) 0 131 i0 (.agg #[V ⟨#[]⟩,V ⟨#[]⟩]) 2 32 underlying80 Hi.o kY.o kT.o kZ.o (by rfl) (by decide) (Z xY l.length D) l.length (gG l) (by rfl) (zk.o.mono (aA _)) ⟨j.heap.size,0,U⟩ 1 1 [V ⟨#[67,111,110,116,101,110,116,45,76,101,110,103,116,104]⟩,V y] (by rfl) (by rfl) HNB.o (IG _ _) (by decide) WC.o.1 WC.o.2 (aA _) w5.heap.size (by rfl) ?_;intro g6 cap6 w6 d f uR NU;have Yt:=H9 d;have xA:=H9 (Qo (L.o) zk.o f (aM _));have HG6:=H9 (Zi.o _ _ _ g6 zk.o _ L.o.size uR);have HK6:=H9 (pO.o w6 xA.o);clear d f uR NU;(try simp only[Act.put,List.getElem_toArray,List.getElem_cons_succ,List.getElem_cons_zero,List.setIfInBounds_toArray,dS,List.set_cons_succ]))
      | (go_at_call 190;refine(uT.o _ Sw.o).mono ?_;rintro e w5 ⟨xY,D,rfl,vX,Bq⟩;have zk:=H9 (vX.mono Sw.o.size);have L:=H9 (Sw.o.trans (Bq.mono (by simp)));have HK5:=H9 (pO.o w5 L.o);have HNB:=H9 (adA Bq);clear vX Bq)
      | (go_at_call 190;refine(uT.o _ Sv.o).mono ?_;rintro e w5 ⟨xY,D,rfl,vX,Bq⟩;have zk:=H9 (vX.mono Sv.o.size);have L:=H9 (Sv.o.trans (Bq.mono (aM _)));have HK5:=H9 (pO.o w5 L.o);have HKA:=H9 (pO.o _ (L.o.trans ((eY _ w5).alloc L.o.size (K #[V ⟨#[67,111,110,116,101,110,116,45,76,101,110,103,116,104]⟩,V y] 131))));clear vX Bq))
     all_goals (go_wp2;go_meet;exact⟨g6,cap6,rfl,rfl,rfl,Yt.o,HG6.o,xA.o⟩)
    case rest =>
     obtain⟨gf,zA,rfl,rfl,rfl,Ea,hG6,WE⟩:=hcut;have hrow:ji wc (M ⟨gf,0,U⟩) zA (l.length+1) (gG c):=by rw[HPV.o];exact Ea.qE
     have Ky:Hid (KW w #[I J (b:Int),Z fo l.length fZ,Z bo body.length fU] 109 c (M ⟨gf,0,U⟩) zA g r (Rp.first b) wc) :=
      ⟨HOb.o.stay WE,HUb.o.keep WE,by rw[NT.o];exact hrow,fun a e=>by injection e with e;subst e;exact⟨by have:=IQ.o;show gf≠g;omega,(Ea.block _ rfl).2⟩⟩
     clear Ea hG6 WE hrow pO uT HOb HUb y0 y1 x1 IQ;go_wp2;go_loopw [5,39] (fun vo vi wr=>∃(i n g r:Nat),i<=l.length+1∧vi=I J i∧vo=Z (M ⟨g,0,U⟩) n r∧(Rp.first b++(c.take i).flatMap Rp.jB).length=n∧(∀p∈c.take i,(Fd.text p.1.data.toList p.2.data.toList).2=0)∧KW w #[I J (b:Int),Z fo l.length fZ,Z bo body.length fU] 109 c (M ⟨gf,0,U⟩) zA g r (Rp.first b++(c.take i).flatMap Rp.jB) wr) (fun _ vi _=>l.length+1-(intOf vi).toNat)
     case atStart=>exact⟨0,_,_,_,aA _,rfl,rfl,by simpa using HZl.o,fun p T=>by simp at T,by simpa using Ky.o⟩
     case round =>
      obtain⟨i,n,g,r,hi,rfl,rfl,hn,Cx,hR⟩:=hrel;have HR:=H9 hR;have WG:=H9 hn;have HZr:=H9 Cx
      have hnl:n<=200000:=by
       have h2:=Bt (c.take i) (fun p T=>HPc.o p (List.mem_of_mem_take T));have h3:(c.take i).length<=16:=by rw[bW,NT.o];omega
       rw[aV,HZl.o] at hn;omega
      clear hR Ky hn Cx;obtain⟨u,x1,x2⟩:=N.o wr HR.o.one;by_cases hlt:i<l.length+1
      . have hlt':(i:Int)<(l.length:Int)+1:=by omega
        have UE:i<c.length:=by rw[NT.o];exact hlt
        have hp1:=HR.o.row.cell (mQ c i UE).1;have hp2:=HR.o.row.cell (mQ c i UE).2;rw[fQ,aZ] at hp1 hp2;have hfc:=HR.o.row.1;rw[NT.o] at hfc;have hps:=HPc.o c[i] (aC UE);have qU:Hid (c.take (i+1)=c.take i++[c[i]]):=bM UE;have abD:Hid ((Fd.text c[i].1.data.toList c[i].2.data.toList).2≠0->Rp.code c=(Fd.text c[i].1.data.toList c[i].2.data.toList).2):=fun hc=>Rp.JW c i UE HZr.o hc;generalize c[i]=p at *;have wV:=H9 (KV p.1 p.2 (wr.alloc (K #[V p.1,V p.2] 131)) (by omega) (by omega));have B:=D9 p hps;have Zm:Hid (Rp.jB p=(Fd.text p.1.data.toList p.2.data.toList).1++[13,10]):=rfl;have Fe:Hid (Below wr.heap.size wr (wr.alloc (K #[V p.1,V p.2] 131))):=(eY _ _).alloc (aM _) _;unfold sM at wV;generalize hcd:(Fd.text p.1.data.toList p.2.data.toList).2=cd at *;generalize (Fd.text p.1.data.toList p.2.data.toList).1=tx at *;have HCd:=H9 hcd;clear hps UE hcd;by_cases hc0:cd=0
        . subst hc0;have hxz:((⟨tx.toArray⟩:ay)++⟨#[13,10]⟩:ay).size=tx.length+2:=by rw[bL];rfl
          have hxd:((⟨tx.toArray⟩:ay)++⟨#[13,10]⟩:ay).data.toList=tx++[13,10]:=by rw[Ch.data_append]
          have hxl:tx.length+2<=4004:=by
           have:=Zm.o;rw[this,aV] at B;simpa using B
          have HXz:=H9 hxz;have HXd:=H9 hxd
          clear hxz hxd B;go_wp2_with fail
          refine wV.o.mono ?_;rintro e w5 ⟨rfl,G⟩;have HR5:=H9 (HR.o.stay (Fe.o.trans (G.mono (by simp))));clear G u x1 x2 wV;go_wp2_with (at_builtin;refine mh rfl (.tmp 51) (.tmp 53) 31 9 rfl 5 j0 underlying31 Hj.o NQ.o NR.o NS.o rfl HR5.o.buf WG.o _ _ rfl (vL underlying9 _ _) (by rw[HXz.o];omega) ?_;intro g7 Fg w7 WH Eb H;have Qx:=H9 (HR5.o.grow WH Eb H);clear WH Eb H)
          go_roundw
          case rel =>
           have hlc:Rp.first b++(c.take i).flatMap Rp.jB++((⟨tx.toArray⟩:ay)++⟨#[13,10]⟩:ay).data.toList=Rp.first b++(c.take (i+1)).flatMap Rp.jB:=by
            rw[qU.o,List.flatMap_append,HXd.o,dO];congr 2;simp[Zm.o]
           refine⟨i+1,_,g7,Fg,by omega,by go_num,rfl,?_,?_,by rw[<-hlc];exact Qx.o⟩
           . rw[<-hlc,aV,WG.o,HXd.o];simp
           . intro q hq;rw[qU.o] at hq;rcases bq.1 hq with hq | hq
             . exact HZr.o q hq
             . simp at hq;subst hq;exact HCd.o
          case measure=>simp[intOf];omega
        . have tc:((cd:Int) != 0)=true:=by rw[cK];omega
          have HLb:=H9 (abD.o hc0);have NV:=H9 hc0
          clear hc0 B;go_wp2_with fail
          refine wV.o.mono ?_;rintro e w5 ⟨rfl,G⟩;have HR5:=H9 (HR.o.stay (Fe.o.trans (G.mono (by simp))));clear G u x1 x2 wV;go_wp2;(try simp only[Exit.inBlock,Exit.then]);go_ret2;refine .bad cd NV.o rfl ?_ HR5.o.one.below;rw[HT.o,HLb.o,if_pos NV.o]
      . obtain rfl:i=l.length+1:=by omega
        have HXe:Hid (Rp.out b l body=(Rp.first b++(c.take (l.length+1)).flatMap Rp.jB++[13,10]++body,0)):=by
         have htl:c.take (l.length+1)=c:=by rw[<-NT.o];exact bN
         have hz:=HZr.o;rw[htl] at hz;unfold Hid;rw[HT.o,Rp.Q7 c hz,if_neg (by simp),htl]
        clear HT;go_wp2_with (first
         | (at_builtin;refine mh rfl (.tmp 56) (.const (V ⟨#[13,10]⟩)) 31 9 rfl 5 j0 underlying31 Hj.o NQ.o NR.o NS.o rfl HR.o.buf WG.o _ _ rfl (vL underlying9 _ _) (by show n+2<=_;omega) ?_;intro g7 Fg w7 WH Eb H;have Yu:=HR.o.grow WH Eb H;have Qx:=H9 Yu;have abF:=H9 (zP.o.stay Yu.one.below);have z2:=(N.o w7 Yu.one).2.2;clear WH Eb H Yu)
         | (at_builtin;refine mh rfl (.tmp 58) (.tmp 60) 31 31 rfl 5 j0 underlying31 Hj.o NQ.o NR.o NS.o rfl Qx.o.buf (by rw[aV,WG.o];rfl) _ _ rfl (NN underlying31 abF.o rfl) (by omega) ?_;intro g8 abG w8 hU8 hT8 hg8;have HR8:=H9 (Qx.o.grow hU8 hT8 hg8);clear hU8 hT8 hg8))
        go_ret2;have t:=HR8.o.buf;refine .ok g8 abG _ rfl ?_ (by rw[HXe.o]) (by rw[HXe.o];exact⟨by have:=t.rD;omega,t.lt,t.le,t.max,t.holds,t.there⟩) HR8.o.one.below;rw[HXe.o];show _=(Rp.first b++(c.take (l.length+1)).flatMap Rp.jB++[13,10]++body).length;rw[aV,aV,WG.o];rfl
 . have HF:=H9 (Rp.Sq (body:=body) x);have tc:(((Rp.fault st l:Nat):Int) != 0)=true:=by rw[cK];omega
   have HN0:=H9 x;generalize Rp.fault st l=fc at *;clear x;go_enter func140,ntmps140;go_wp2_with fail
   refine S.o.mono ?_;rintro e w1 ⟨rfl,m⟩;have BZ:=H9 (H0.o.stay m);clear m H0 u x1 x2;go_wp2;go_ret2;exact .bad fc HN0.o rfl HF.o BZ.o.below
theorem pF (st:Int)(w:X):Calls prog 142 #[I J st] w fun e w'=>e=Y (.agg #[I J st,Z U 0 0,Z U 0 0])∧Below w.heap.size w w':=by
 go_enter func142,ntmps142;go_wp2;refine fI (v:=.agg #[I J st,Z U 0 0,Z U 0 0]) (by simp[results,results142,go_sem]) rfl ⟨rfl,?_⟩;exact(eY _ _).alloc (aM _) _
theorem Ah {W:X}{b g:Nat}{f x1 x2:Value}(h:W.heap[b]? = M (K #[f,x1,x2] g (0,0)))(a c d:Value):
 (W.cell? ⟨b,0,U⟩=M f∧W.cell? ⟨b,1,U⟩=M x1∧W.cell? ⟨b,2,U⟩=M x2∧W.frozen? ⟨b,0,U⟩=F∧W.frozen? ⟨b,1,U⟩=F∧W.frozen? ⟨b,2,U⟩=F) ∧
 Hid ((((W.setCell ⟨b,0,U⟩ a).setCell ⟨b,1,U⟩ c).setCell ⟨b,2,U⟩ d).cell? ⟨b,0,U⟩=M a∧(((W.setCell ⟨b,0,U⟩ a).setCell ⟨b,1,U⟩ c).setCell ⟨b,2,U⟩ d).cell? ⟨b,1,U⟩=M c∧(((W.setCell ⟨b,0,U⟩ a).setCell ⟨b,1,U⟩ c).setCell ⟨b,2,U⟩ d).cell? ⟨b,2,U⟩=M d∧Turns (fun k=>k=b) W (((W.setCell ⟨b,0,U⟩ a).setCell ⟨b,1,U⟩ c).setCell ⟨b,2,U⟩ d)):=by
 have e:=fu _ b 2 _ _ d (fu _ b 1 _ _ c (fu W b 0 _ _ a h));exact⟨⟨eZ W _ 0 _ _ _ h,eZ W _ 1 _ _ _ h,eZ W _ 2 _ _ _ h,fq W _ 0 _ _ h,fq W _ 1 _ _ h,fq W _ 2 _ _ h⟩,eZ _ _ 0 _ _ _ e,eZ _ _ 1 _ _ _ e,eZ _ _ 2 _ _ _ e,gY b [a,c,d] 0 W⟩
theorem uD (k:Int)(w:X):Calls prog 37 #[I J k] w fun e w'=>e=Y (.bool (decide (0<=k)&&decide (k<4)))∧w'=w:=by
 by_cases h:0<=k
 . have t:decide (k≥0)=true:=aI h;rw[aI h,Bool.true_and];go_enter func37,ntmps37;go_wp2;go_ret;exact⟨rfl,rfl⟩
 . have t:decide (k≥0)=F:=aJ h;rw[aJ h,Bool.false_and];go_enter func37,ntmps37;go_wp2;go_ret;exact⟨rfl,rfl⟩
theorem NW (c:Nat)(w:X):Calls prog 87 #[I J (c:Int)] w fun e w'=>e=Y (.agg #[I J ((Gt.qZ c).1:Int),Z U 0 0,Z U 0 0])∧Below w.heap.size w w':=by
 by_cases h:c=4
 . subst h;go_enter func87,ntmps87;go_wp2_with fail
   refine((fun W=>pF 413 W) _).mono ?_;rintro e d ⟨rfl,a⟩;obtain⟨⟨m,n,p,q,r,s⟩,f⟩:=Ah ((a.block w.heap.size (by simp)).trans (eX w _)) (I J 413) (Z U 0 0) (Z U 0 0);have b:=then_ ((eY _ w).alloc (aM _) _) a;go_wp2;generalize (((d.setCell ⟨w.heap.size,0,U⟩ _).setCell ⟨w.heap.size,1,U⟩ _).setCell ⟨w.heap.size,2,U⟩ _)=u at *;obtain⟨g,i,j,l⟩:=f.o;refine fI (v:=.agg #[I J 413,Z U 0 0,Z U 0 0]) (by simp[results,results87,go_sem,g,i,j]) rfl ⟨rfl,b.trans (l.below (fun k e=>by omega) b.size)⟩
 . have t:((c:Int)==4)=F:=aR.2 (by omega);have x:(Gt.qZ c).1=400:=by unfold Gt.qZ;simp[h]
   rw[x];go_enter func87,ntmps87;go_wp2_with fail
   refine((fun W=>pF 400 W) _).mono ?_;rintro e d ⟨rfl,a⟩;obtain⟨⟨m,n,p,q,r,s⟩,f⟩:=Ah ((a.block w.heap.size (by simp)).trans (eX w _)) (I J 400) (Z U 0 0) (Z U 0 0);have b:=then_ ((eY _ w).alloc (aM _) _) a;go_wp2;generalize (((d.setCell ⟨w.heap.size,0,U⟩ _).setCell ⟨w.heap.size,1,U⟩ _).setCell ⟨w.heap.size,2,U⟩ _)=u at *;obtain⟨g,i,j,l⟩:=f.o;refine fI (v:=.agg #[I J 400,Z U 0 0,Z U 0 0]) (by simp[results,results87,go_sem,g,i,j]) rfl ⟨rfl,b.trans (l.below (fun k e=>by omega) b.size)⟩
theorem jU.agn {w:X}{g gs:Nat}{v:Nat->List Value}(h:jU w g gs v){k:Nat}(a:k<4){m n a2 p q r s:Value}(t:v k=[m,n,a2,p,q,r,s]){o:Nat}(u:1+k*7=o)(b c d e f l:Value):
 jU ((((((w.setCell ⟨g,o+1,U⟩ b).setCell ⟨g,o+2,U⟩ c).setCell ⟨g,o+3,U⟩ d).setCell ⟨g,o+4,U⟩ e).setCell ⟨g,o+5,U⟩ f).setCell ⟨g,o+6,U⟩ l) g gs (upd v k [m,b,c,d,e,f,l])∧Turns (fun i=>i=g) w ((((((w.setCell ⟨g,o+1,U⟩ b).setCell ⟨g,o+2,U⟩ c).setCell ⟨g,o+3,U⟩ d).setCell ⟨g,o+4,U⟩ e).setCell ⟨g,o+5,U⟩ f).setCell ⟨g,o+6,U⟩ l):=by
 subst u;refine⟨?_,gY g [b,c,d,e,f,l] (1+k*7+1) w⟩;have:=(((((h.set a (j:=1) (by decide) b).set a (j:=2) (by decide) c).set a (j:=3) (by decide) d).set a (j:=4) (by decide) e).set a (j:=5) (by decide) f).set a (j:=6) (by decide) l;simp only[pX,iI,t] at this;exact this
theorem Ai {w:X}{g gs:Nat}{v:Nat->List Value}(h:jU w g gs v){k:Nat}(a:k<4){f:Value}{m t:ay}{mi ln:Int}{fo bo:ak}{nf fZ nb fU:Nat}(b:v k=[f,V m,V t,I J mi,Z fo nf fZ,I J ln,Z bo nb fU]):
 Calls prog 38 #[Q (M ⟨g,1+k*7,U⟩)] w fun e w'=>e=Y (.agg #[V m,V t,I J mi,Z fo nf fZ,I J ln,Z bo nb fU])∧jU w' g gs (upd v k [f,V ⟨#[]⟩,V ⟨#[]⟩,I J 0,Z U 0 0,I J 0,Z U 0 0])∧Turns (fun i=>i=g) w w':=by
 have p:=h.at_ a (j:=1) (by decide) (u:=V m) (by rw[b];rfl);have q:=h.at_ a (j:=2) (by decide) (u:=V t) (by rw[b];rfl);have r:=h.at_ a (j:=3) (by decide) (u:=I J mi) (by rw[b];rfl);have s:=h.at_ a (j:=4) (by decide) (u:=Z fo nf fZ) (by rw[b];rfl);have x:=h.at_ a (j:=5) (by decide) (u:=I J ln) (by rw[b];rfl);have y:=h.at_ a (j:=6) (by decide) (u:=Z bo nb fU) (by rw[b];rfl);have z:=h.fz (1+k*7+1);have B:=h.fz (1+k*7+2);have C:=h.fz (1+k*7+3);have D:=h.fz (1+k*7+4);have G:=h.fz (1+k*7+5);have H:=h.fz (1+k*7+6)
 have L:=h.lt;obtain⟨o,l⟩:∃o,1+k*7=o:=⟨_,rfl⟩;rw[l] at p q r s x y z B C D G H ⊢;go_enter func38,ntmps38;go_wp2;have N:=h.agn a b l (V ⟨#[]⟩) (V ⟨#[]⟩) (I J 0) (Z U 0 0) (I J 0) (Z U 0 0);change bodyPost _ _ _ _ _ (World.alloc (World.alloc (((((((w.setCell ⟨g,o+1,U⟩ (V ⟨#[]⟩)).setCell ⟨g,o+2,U⟩ (V ⟨#[]⟩)).setCell ⟨g,o+3,U⟩ (I J 0)).setCell ⟨g,o+4,U⟩ (Z U 0 0)).setCell ⟨g,o+5,U⟩ (I J 0)).setCell ⟨g,o+6,U⟩ (Z U 0 0))) _) _);have T:((((((w.setCell ⟨g,o+1,U⟩ (V ⟨#[]⟩)).setCell ⟨g,o+2,U⟩ (V ⟨#[]⟩)).setCell ⟨g,o+3,U⟩ (I J 0)).setCell ⟨g,o+4,U⟩ (Z U 0 0)).setCell ⟨g,o+5,U⟩ (I J 0)).setCell ⟨g,o+6,U⟩ (Z U 0 0)).heap.size=w.heap.size:=by simp
 generalize ((((((w.setCell ⟨g,o+1,U⟩ (V ⟨#[]⟩)).setCell ⟨g,o+2,U⟩ (V ⟨#[]⟩)).setCell ⟨g,o+3,U⟩ (I J 0)).setCell ⟨g,o+4,U⟩ (Z U 0 0)).setCell ⟨g,o+5,U⟩ (I J 0)).setCell ⟨g,o+6,U⟩ (Z U 0 0))=c at *;obtain⟨d,W⟩:=N;have n:Below c.heap.size c ((c.alloc (K #[V m,V t,I J mi,Z fo nf fZ,I J ln,Z bo nb fU] 84)).alloc (K #[V m,V t,I J mi,Z fo nf fZ,I J ln,Z bo nb fU] 84)):=then_ ((eY _ _).alloc (aM _) _) ((eY _ _).alloc (aM _) _);refine fI (v:=.agg #[V m,V t,I J mi,Z fo nf fZ,I J ln,Z bo nb fU]) (by rw[<-T];simp[results,results38,go_sem]) rfl ⟨rfl,⟨(n.block g d.lt).trans d.row,d.seven⟩,W.trans (Turns.of_below (S:=fun _=>False) n) (fun _ e _=>e.elim)⟩
theorem Bu (w:X):Calls prog 39 #[] w fun e w'=>∃gp,e=Y (.agg #[Q (M ⟨gp,0,U⟩),V ⟨#[]⟩,V ⟨#[]⟩,I J 0,Z U 0 0,I J 0,Z U 0 0])∧jq w' (fun k=>w.heap.size<=k) gp Rq.start∧Below w.heap.size w w':=by
 go_enter func39,ntmps39;go_wp2_with fail
 refine((fun W=>Nn W) _).mono ?_;rintro e b ⟨gp,rfl,s,d⟩;have a:=(d.block w.heap.size (by simp)).trans (eX w _);have x:=eZ b _ 0 _ _ _ a;have y:=eZ b _ 1 _ _ _ a;have z:=eZ b _ 2 _ _ _ a;have B:=eZ b _ 3 _ _ _ a;have C:=eZ b _ 4 _ _ _ a;have D:=eZ b _ 5 _ _ _ a;have G:=eZ b _ 6 _ _ _ a
 have H:=fun j=>fq b _ j _ _ a;have f:=then_ ((eY _ w).alloc (aM _) _) d;have t:jq b (fun k=>w.heap.size+1<=k) gp Rq.start:=s.mono (fun k _ e=>by rw[fG] at e;exact e);have u:=H9 a;go_wp2;have g:Turns (fun k=>k=w.heap.size) b (((((((b.setCell ⟨w.heap.size,0,U⟩ (Q (M ⟨gp,0,U⟩))).setCell ⟨w.heap.size,1,U⟩ (V ⟨#[]⟩)).setCell ⟨w.heap.size,2,U⟩ (V ⟨#[]⟩)).setCell ⟨w.heap.size,3,U⟩ (I J 0)).setCell ⟨w.heap.size,4,U⟩ (Z U 0 0)).setCell ⟨w.heap.size,5,U⟩ (I J 0)).setCell ⟨w.heap.size,6,U⟩ (Z U 0 0)):=gY w.heap.size [Q (M ⟨gp,0,U⟩),V ⟨#[]⟩,V ⟨#[]⟩,I J 0,Z U 0 0,I J 0,Z U 0 0] 0 b;have a:=fu _ _ 6 _ _ (Z U 0 0) (fu _ _ 5 _ _ (I J 0) (fu _ _ 4 _ _ (Z U 0 0) (fu _ _ 3 _ _ (I J 0) (fu _ _ 2 _ _ (V ⟨#[]⟩) (fu _ _ 1 _ _ (V ⟨#[]⟩) (fu b w.heap.size 0 _ _ (Q (M ⟨gp,0,U⟩)) u.o))))));generalize (((((((b.setCell ⟨w.heap.size,0,U⟩ (Q (M ⟨gp,0,U⟩))).setCell ⟨w.heap.size,1,U⟩ (V ⟨#[]⟩)).setCell ⟨w.heap.size,2,U⟩ (V ⟨#[]⟩)).setCell ⟨w.heap.size,3,U⟩ (I J 0)).setCell ⟨w.heap.size,4,U⟩ (Z U 0 0)).setCell ⟨w.heap.size,5,U⟩ (I J 0)).setCell ⟨w.heap.size,6,U⟩ (Z U 0 0))=c at *;have i:=eZ c _ 0 _ _ _ a;have l:=eZ c _ 1 _ _ _ a;have m:=eZ c _ 2 _ _ _ a;have n:=eZ c _ 3 _ _ _ a;have p:=eZ c _ 4 _ _ _ a;have q:=eZ c _ 5 _ _ _ a;have r:=eZ c _ 6 _ _ _ a
 simp at i l m n p q r;refine fI (v:=.agg #[Q (M ⟨gp,0,U⟩),V ⟨#[]⟩,V ⟨#[]⟩,I J 0,Z U 0 0,I J 0,Z U 0 0]) (by simp[results,results39,go_sem,i,l,m,n,p,q,r]) rfl ⟨gp,rfl,?_,f.trans (g.below (fun k e=>by omega) f.size)⟩;exact(t.turns g (fun k e L=>by omega)).mono (fun k _ e=>by omega)
theorem KX (m t:ay)(mi ln:Int)(fo bo:ak)(nf fZ nb fU:Nat)(w:X)(b:t.size<=100000):Calls prog 40 #[.agg #[V m,V t,I J mi,Z fo nf fZ,I J ln,Z bo nb fU]] w fun e w'=>e=Y (.bool (decide (m=Gt.Dj)&&Gt.yQ t))∧Below w.heap.size w w':=by
 have a:=(eY _ w).alloc (aM _) (K #[V m,V t,I J mi,Z fo nf fZ,I J ln,Z bo nb fU] 84);by_cases h:m=Gt.Dj
 . have c:(m.toList==[80,65,84,67,72])=true:=by rw[aS,Lib.toList_data,h];rfl
   rw[aI h,Bool.true_and];clear h;go_enter func40,ntmps40;go_wp2_with fail
   refine((fun W=>Br t W b) _).mono ?_;rintro e f ⟨rfl,d⟩;subst d;go_wp2;go_ret;exact⟨rfl,a⟩
 . have c:(m.toList==[80,65,84,67,72])=F:=by
    rw[aR,Lib.toList_data];intro e;exact h (by rw[ByteArray.ext_iff,<-eU,e];rfl)
   rw[aJ h,Bool.false_and];go_enter func40,ntmps40;go_wp2;go_ret;exact⟨rfl,a⟩
structure adT (w:X)(l:av)(e:Ending)(w':X):Prop where
 ret:∃(ao:ak) (cap n:Nat),e=Y (Z ao n cap)∧n=l.length∧gN w' ao cap l
 qy:Below w.heap.size w w'
theorem Gz (w:X)(r:Gt.yA)(fo bo:ak)(nf fZ nb fU:Nat)(b:Gt.Small r)(d:r.2.1.length=nf)(m:ji w fo fZ nf (gG r.2.1))(p:r.2.2.length=nb)(s:gN w bo fU r.2.2)(t:kD w):
 Calls prog 85 #[.agg #[I J (r.1:Int),Z fo nf fZ,Z bo nb fU]] w fun e w'=>adT w (Gt.textOf r) e w':=by
 subst d;have a:=(eY _ w).alloc (aM _) (K #[I J (r.1:Int),Z fo r.2.1.length fZ,Z bo nb fU] 109);have z:=b.few;have B:=b.body
 have u:=NP _ (r.1:Int) r.2.1 fo bo fZ fU nb r.2.2 (m.stay a) (by omega) b.fields p (s.stay a) (by omega) (t.stay a);have l:=H9 a;have v:Gt.textOf r=(Rp.out (r.1:Int) r.2.1 r.2.2).1:=rfl;rw[v];generalize Rp.out (r.1:Int) r.2.1 r.2.2=q at *;go_enter func85,ntmps85;go_wp2_with fail
 refine u.mono ?_;rintro e C x;cases x with
 | bad c D f i a =>
   subst f;have j:=H9 (then_ l.o a);go_wp2;go_ret;refine⟨⟨U,0,0,rfl,by rw[i];rfl,by rw[i];exact gN.nil _⟩,j.o⟩
 | ok g k n f d i y a =>
   subst f;subst d;have j:=H9 (then_ l.o a);go_wp2;go_ret;exact⟨⟨_,k,_,rfl,rfl,y.tQ⟩,j.o⟩
theorem WR (a:ay)(l:au):Fd.one (Fd.vals a l)=Tu.one (Tu.vals a l):=by
 show Fd.one (Tu.vals a l)=_;match Tu.vals a l with
 | []=>rfl
 | [_]=>rfl
 | _::_::_=>rfl
theorem Ef {w:X}{l:au}{fo:ak}{fZ nf:Nat}(h:pE w l fo fZ nf):
 Calls prog 192 #[Z fo nf fZ] w fun e w'=>e=Y (.tuple #[V ((Gt.bound l).elim ⟨#[]⟩ Gt.txt),.bool (Gt.bound l).isSome])∧Below w.heap.size w w':=by
 have k:=H9 (sU l Tu.fCT fo fZ nf w h.is h.len (by have:=h.few;omega) h.small (by decide));have hz:=h.val Tu.Mx;rw[WR,Tu.DX] at k;unfold Tu.fCT at k;obtain⟨B,d⟩:∃B,B=Gt.bound l:=⟨_,rfl⟩;rw[<-d];unfold Gt.bound at d;generalize Tu.one (Tu.vals Tu.Mx l)=r at *;obtain⟨v,c⟩:=r;simp only[sM] at hz k d;by_cases hc:c=0
 . subst hc;rw[if_neg (by simp)] at d;have m:=H9 d;have HP:Hid (∀W,Calls prog 225 #[V ⟨v.toArray⟩] W fun e w'=>uz W (Pm.jL v) e w'):=fun W=>by
    have:=xZ ⟨v.toArray⟩ W (by show v.toArray.size<=_;rw[bK];omega);rw[show(⟨v.toArray⟩:ay).data.toList=v from by simp] at this;exact this
   go_enter func192,ntmps192;go_wp2_with fail
   refine k.o.mono ?_;rintro e w1 ⟨rfl,f⟩;have G:=H9 f;go_wp2_with fail
   refine(HP.o _).mono ?_;rintro e H ⟨word,b,ao,n,code,rfl,z,s,L⟩;have g:Below H.heap.size H (H.alloc (K #[V word,Z ao b.length n] 206)):=(eY _ _).alloc (aM _) _;have a:=H9 (then_ (then_ G.o L) g);cases C:Pm.jL v with
   | inl c2 =>
     rw[C] at z m;obtain⟨rfl,rfl,rfl⟩:=z;obtain rfl:B=U:=m.o;by_cases h0:code=0
     . subst h0;go_wp2;go_ret2;exact⟨rfl,a.o⟩
     . have t0:((code:Int) != 0)=true:=by rw[cK];omega
       go_wp2;go_ret2;exact⟨rfl,a.o⟩
   | inr x =>
     obtain⟨N,qs⟩:=x;rw[C] at z m;obtain⟨rfl,i,t⟩:=z;simp only at i t;have mO:=Fm.GD C;have u:=Pm.zY C;subst t;have hn8:b.length<=8:=by rw[<-rH];exact mO
     have S:∀p∈b,p.2.size<=1000000:=fun p hp=>by
      have h2:=(u.2 (p.1.data.toList,p.2.data.toList) (aN.2 ⟨p,hp,rfl⟩)).2;rw[Ch.iK] at h2;omega
     obtain⟨T,j⟩:∃T,b.length=T:=⟨_,rfl⟩;rw[j] at s g a;have HG:=zC word b ⟨#[98,111,117,110,100,97,114,121]⟩ ao n T _ (s.qE.stay g) j (by omega) S;have HGl:=Ec ⟨#[98,111,117,110,100,97,114,121]⟩ b;rw[j];by_cases D:N=Gt.Qa
     . have tw:(word.toList==[109,117,108,116,105,112,97,114,116,47,102,111,114,109,45,100,97,116,97])=true:=by rw[aS,Lib.toList_data,i,D];rfl
       have hBq:B=(kR ⟨#[98,111,117,110,100,97,114,121]⟩ b).map (fun x=>x.data.toList):=by
        rw[HGl,m.o];show(if N≠Gt.Qa then U else Fm.get Gt.M6 (lD b))=_;rw[if_neg (by simp[D])];rfl
       generalize kR ⟨#[98,111,117,110,100,97,114,121]⟩ b=q at *;go_wp2_with fail
       refine HG.mono ?_;rintro e w3 ⟨rfl,hb3⟩;have HB3:=then_ a.o hb3;go_wp2;go_ret2;refine⟨?_,HB3⟩;rw[hBq];cases q with
       | none=>rfl
       | some y=>simp[Gt.txt]
     . have tw:(word.toList==[109,117,108,116,105,112,97,114,116,47,102,111,114,109,45,100,97,116,97])=F:=by
        rw[aR,Lib.toList_data,i];exact D
       obtain rfl:B=U:=by
        rw[m.o];show(if N≠Gt.Qa then U else Fm.get Gt.M6 (lD b))=_;rw[if_pos D]
       go_wp2;go_ret2;exact⟨rfl,a.o⟩
 . have t0:((c:Int) != 0)=true:=by rw[cK];omega
   rw[if_pos hc] at d;subst d;go_enter func192,ntmps192;go_wp2_with fail
   refine k.o.mono ?_;rintro e w1 ⟨rfl,f⟩;go_wp2;go_ret2;exact⟨rfl,f⟩
theorem SK (a:List Fm.Pt)(k:Nat)(b:k<a.length):Gt.room (a.take (k+1))=Gt.room (a.take k)+(a[k].bytes.length+200):=by
 unfold Gt.room;rw[bM b,bE,List.sum_append];simp
theorem room_le (a:List Fm.Pt)(k:Nat):Gt.room (a.take k)<=Gt.room a:=by
 unfold Gt.room;conv=>rhs;rw[<-bV k a,bE,List.sum_append]
 omega
theorem Og {w:X}{ao:ak}{cap n:Nat}{a:List Fm.Pt}(h:Ee w ao cap a)(r:a.length=n)(G:Gt.room a<=1000000000):
 Calls prog 194 #[Z ao n cap] w fun e w'=>e=Y (I J (Gt.room a:Int))∧Below w.heap.size w w':=by
 subst r;have u:=H9 h;have m:a.length<=cap:=by obtain⟨_,_,v,_⟩:=h;exact v.1
 have H:a.length<=10000000:=by
  have x:∀l:List Fm.Pt,l.length*200<=Gt.room l:=fun l=>by
   induction l with
   | nil=>simp[Gt.room]
   | cons p t L=>unfold Gt.room at *;simp at *;omega
  have:=x a;omega
 go_enter func194,ntmps194;go_wp2;go_loopw [3,8] (fun y f wr=>∃i:Nat,i<=a.length∧f=I J i∧y=I J (Gt.room (a.take i):Int)∧Below w.heap.size w wr) (fun _ f _=>a.length-(intOf f).toNat)
 case atStart=>exact⟨0,aA _,rfl,rfl,eY _ _⟩
 case round =>
  obtain⟨i,N,rfl,rfl,g⟩:=hrel;by_cases d:i<a.length
  . have q:(i:Int)<a.length:=by omega
    obtain⟨b,o,s,rfl,S,T,W,z,B⟩:=(u.o.stay g).at_ i d;have j:=SK a i d;have C:=room_le a i;have c:=room_le a (i+1);rw[j] at c;obtain⟨nb,k⟩:∃nb,a[i].bytes.length=nb:=⟨_,rfl⟩;rw[k] at z j c;have D:=then_ g ((eY _ wr).alloc (aM _) (K #[V a[i].name,V a[i].file,V a[i].type,Z s.bo nb s.fU] 96));generalize a[i]=p at *;go_wp2;go_roundw
    case rel=>exact⟨i+1,by omega,by go_num,by rw[j];go_num,D⟩
    case measure=>simp[intOf];omega
  . obtain rfl:i=a.length:=by omega
    go_wp2;go_ret;refine⟨?_,g⟩;rw[bN];rfl
inductive Ou
 | row
 | iX
 | ids
 | list
 | box
 | out
def qW (l:List Int):List Value:=l.map fun i=>Value.int J i
def Ov (io:ak)(gM:Nat)(ids:List Int):Ob:=fun w S=>gH w 0 3 1 io gM ids.length (qW ids)∧∀a,io=M a->S a.block
theorem Ov.law (c:ak)(d:Nat)(ids:List Int):kE (Ov c d ids):=⟨fun h f b=>⟨h.1.turns f (fun a e=>b _ (h.2 a e)),h.2⟩,fun h b=>⟨h.1,fun a e=>b _ (h.1.block a e).2 (h.2 a e)⟩⟩
def wz (g:Nat)(o:Obj):Ob:=fun w S=>w.heap[g]? = M o∧S g
theorem wz.law (g:Nat)(o:Obj):kE (wz g o):=⟨fun h b a=>⟨b.row h.1 (a g h.2),h.2⟩,fun h a=>⟨h.1,a g (aL.1 h.1).1 h.2⟩⟩
def Yx (gs:Nat)(io:ak)(ni gM:Nat)(lo:ak)(nl iB:Nat):Obj:=K #[Q (M ⟨gs,0,U⟩),Z io ni gM,Z lo nl iB] 252 (0,0)
def En (L gs:Nat)(s:Sr.Sh)(o:Obj)(io:ak)(gM:Nat)(ids:List Int)(lo:ak)(iB:Nat)(told:av)(b u:Ob):Ou->Ob
 | .row=>wz L o
 | .iX=>fun w S=>gX w S gs s
 | .ids=>Ov io gM ids
 | .list=>uS lo iB told
 | .box=>b
 | .out=>u
theorem rP {L gs:Nat}{s:Sr.Sh}{o:Obj}{e:ak}{f:Nat}{ids:List Int}{g:ak}{i:Nat}{a:av}{b u:Ob}(j:kE b)(k:kE u):∀d,kE (En L gs s o e f ids g i a b u d)
 | .row=>wz.law _ _
 | .iX=>⟨fun h l c=>gX.turns h l c,fun h c=>gX.mono h c⟩
 | .ids=>Ov.law _ _ _
 | .list=>uS.law _ _ _
 | .box=>j
 | .out=>k
def lM (w:X)(S:Nat->Prop)(L gs:Nat)(s:Sr.Sh)(ids:List Int)(told:av):Prop :=
 ∃(κ:Nat->Ou) (io:ak) (gM:Nat) (lo:ak) (iB:Nat),Held (En L gs s (Yx gs io ids.length gM lo told.length iB) io gM ids lo iB told zQ zQ) κ w∧∀k,κ k≠.out->S k
section
variable {w w' w0:X} {S S' D:Nat->Prop} {L gs:Nat} {s:Sr.Sh} {ids:List Int} {told:av}
theorem lM.turns (h:lM w S L gs s ids told)(c:Turns S' w w')(f:∀k,S k->¬S' k):lM w' S L gs s ids told:=by
 obtain⟨g,i,j,l,m,n,a⟩:=h;refine⟨g,i,j,l,m,fun d=>?_,a⟩;by_cases b:d=.out
 . subst b;exact trivial
 . exact(rP kE.kC kE.kC d).turns (n d) c (fun k e=>f k (a k (by rw[e];exact b)))
theorem lM.stay (h:lM w S L gs s ids told)(a:Below w.heap.size w w'):lM w' S L gs s ids told:=h.turns (Turns.of_below (S:=fun _=>False) a) (fun _ _ e=>e)
theorem wB {κ:Nat->Ou}{c:Ou}(a:∀k,κ k≠.out->gB S w k){n:Nat}(b:w.heap.size<=n):∀k,iC κ n c k≠.out->gB S w k:=by intro l;induction l <;> grind [gB,iC]
section
variable {κ:Nat->Ou} {o:Obj} {io:ak} {gM:Nat} {lo:ak} {iB:Nat} {b u:Ob}
theorem I4 (f:kE b)(g:kE u)(h:Held (En L gs s o io gM ids lo iB told b u) κ w){a:Sr.Sh}(i:gX w' (gB (fun k=>κ k=.iX) w) gs a)(j:Turns (fun k=>κ k=.iX) w w'):Held (En L gs a o io gM ids lo iB told b u) (iC κ w.heap.size .iX) w' :=
 h.act (rP f g) j (fun _ e=>e) (X':=En L gs a o io gM ids lo iB told b u) ⟨fun h l c=>gX.turns h l c,fun h c=>gX.mono h c⟩ i (fun _ e=>e) (fun d m=>by cases d <;> first | rfl | exact absurd rfl m)
theorem Xc (a:kE b)(c:kE u)(h:Held (En L gs s o io gM ids lo iB told b u) κ w){o':Obj}(f:w'.heap[L]? = M o')(g:Turns (fun k=>k=L) w w'):Held (En L gs s o' io gM ids lo iB told b u) (iC κ w.heap.size .row) w' :=
 h.act (rP a c) g (fun k e=>by rw[e];exact(h .row).2) (X':=En L gs s o' io gM ids lo iB told b u) (wz.law _ _) (N:=fun k=>k=L) ⟨f,rfl⟩ (fun k e=>A (by rw[e];exact(h .row).2)) (fun d i=>by cases d <;> first | rfl | exact absurd rfl i)
theorem abM (l:kE b)(m:kE u)(h:Held (En L gs s o io gM ids lo iB told b u) κ w){f:ak}{g:Nat}{Ll:List Int}(n:gH w' 0 3 1 f g Ll.length (qW Ll))(p:w.grownBy w' (fV io))(i:∀j,fV f=M j->fV io=M j∨w.heap.size<=j):Held (En L gs s o f g Ll lo iB told b u) (iC κ w.heap.size .ids) w':=by
 have c:∀k,fV io=M k->κ k=.ids:=fun k e=>by
  cases io with
  | none=>cases e
  | some a=>injection e with e;rw[<-e];exact(h .ids).2 a rfl
 refine h.act (rP l m) (Turns.iL (S:=fun k=>fV io=M k) p (fun k e=>e)) c (X':=En L gs s o f g Ll lo iB told b u) (Ov.law _ _ _) (N:=fun k=>fV io=M k∨w.heap.size<=k) ⟨n,fun a e=>i a.block (by rw[e];rfl)⟩ (fun k e=>?_) (fun d q=>by cases d <;> first | rfl | exact absurd rfl q);rcases e with e | e
 . exact A (c k e)
 . exact R e
theorem Zt (g:kE b)(i:kE u)(h:Held (En L gs s o io gM ids lo iB told b u) κ w){c:ak}{f:Nat}{a:av}(j:uS c f a w' (gB (fun k=>κ k=.list) w))(l:Turns (fun k=>κ k=.list) w w'):Held (En L gs s o io gM ids c f a b u) (iC κ w.heap.size .list) w' :=
 h.act (rP g i) l (fun _ e=>e) (X':=En L gs s o io gM ids c f a b u) (uS.law _ _ _) j (fun _ e=>e) (fun d m=>by cases d <;> first | rfl | exact absurd rfl m)
theorem abN (a:kE b)(c:kE u)(h:Held (En L gs s o io gM ids lo iB told b u) κ w)(z:Obj):Held (En L gs s o io gM ids lo iB told (wz w.heap.size z) u) (iC κ w.heap.size .box) (w.alloc z) :=
 h.act (rP a c) (Turns.of_below (S:=fun _=>False) ((eY _ w).alloc (aM _) z)) (fun _ e=>e.elim) (X':=En L gs s o io gM ids lo iB told (wz w.heap.size z) u) (wz.law _ _) (N:=fun k=>w.heap.size<=k) ⟨eX w z,aM _⟩ (fun k e=>R e) (fun d f=>by cases d <;> first | rfl | exact absurd rfl f)
theorem Zu (h:Held (En L gs s o io gM ids lo iB told b u) κ w):Held (En L gs s o io gM ids lo iB told zQ zQ) κ w
 | .row=>h .row
 | .iX=>h .iX
 | .ids=>h .ids
 | .list=>h .list
 | .box=>trivial
 | .out=>trivial
end
end
def Xd (bo:ak)(fU:Nat)(l:av):Ob:=fun w S=>jI w S bo fU l
theorem Xd.law (bo:ak)(fU:Nat)(l:av):kE (Xd bo fU l):=⟨fun h b a=>jI.turns h b a,fun h a=>jI.mono h a⟩
structure lF (w:X)(S:Nat->Prop)(L gs n:Nat)(z:Obj)(bo:ak)(fU:Nat)(l:av)(s:Sr.Sh)(io:ak)(gM:Nat)(ids:List Int)(lo:ak)(iB:Nat)(told:av)(W:X):Prop where
 held:∃κ,Held (En L gs s (Yx gs io ids.length gM lo told.length iB) io gM ids lo iB told (wz n z) (Xd bo fU l)) κ W∧∀k,κ k≠.out->gB S w k
 turns:Turns S w W
section
variable {w W W':X} {S D:Nat->Prop} {L gs n:Nat} {z:Obj} {bo:ak} {fU:Nat} {l:av} {s:Sr.Sh} {io:ak} {gM:Nat} {ids:List Int} {lo:ak} {iB:Nat} {told:av}
theorem lF.start {κ:Nat->Ou}(h:Held (En L gs s (Yx gs io ids.length gM lo told.length iB) io gM ids lo iB told zQ zQ) κ w)(a:∀k,κ k≠.out->S k)(b:jI w D bo fU l)(c:∀k,D k->¬S k)(z:Obj):lF w S L gs w.heap.size z bo fU l s io gM ids lo iB told (w.alloc z):=by
 have d:Held (En L gs s (Yx gs io ids.length gM lo told.length iB) io gM ids lo iB told zQ (Xd bo fU l)) κ w
  | .row=>h .row
  | .iX=>h .iX
  | .ids=>h .ids
  | .list=>h .list
  | .box=>trivial
  | .out=>jI.mono b (fun k _ e=>dW (fun f=>c k e (a k f)))
 exact⟨⟨_,abN kE.kC (Xd.law _ _ _) d z,wB (fun k e=>A (a k e)) (aM _)⟩,Turns.of_below ((eY _ w).alloc (aM _) z)⟩
theorem lF.stay (h:lF w S L gs n z bo fU l s io gM ids lo iB told W)(a:Below W.heap.size W W'):lF w S L gs n z bo fU l s io gM ids lo iB told W':=by
 obtain⟨⟨b,c,d⟩,f⟩:=h;exact⟨⟨b,c.stay (rP (wz.law _ _) (Xd.law _ _ _)) a,d⟩,f.trans (Turns.of_below (S:=fun _=>False) a) (fun _ e _=>e.elim)⟩
theorem lF.row (h:lF w S L gs n z bo fU l s io gM ids lo iB told W):W.heap[L]? = M (Yx gs io ids.length gM lo told.length iB):=by
 obtain⟨⟨b,a,c⟩,d⟩:=h;exact(a .row).1
theorem lF.box (h:lF w S L gs n z bo fU l s io gM ids lo iB told W):W.heap[n]? = M z:=by
 obtain⟨⟨b,a,c⟩,d⟩:=h;exact(a .box).1
theorem lF.bytes (h:lF w S L gs n z bo fU l s io gM ids lo iB told W):gN W bo fU l:=by
 obtain⟨⟨b,a,c⟩,d⟩:=h;exact jI.is (a .out)
theorem lF.ints (h:lF w S L gs n z bo fU l s io gM ids lo iB told W):gH W 0 3 1 io gM ids.length (qW ids):=by
 obtain⟨⟨b,a,c⟩,d⟩:=h;exact(a .ids).1
theorem lF.done (h:lF w S L gs n z bo fU l s io gM ids lo iB told W):lM W (gB S w) L gs s ids told∧Turns S w W:=by
 obtain⟨⟨a,b,c⟩,d⟩:=h;exact⟨⟨a,io,gM,lo,iB,Zu b,c⟩,d⟩
theorem lF.did (h:lF w S L gs n z bo fU l s io gM ids lo iB told W):∃Sh:Nat->Prop,gX W Sh gs s∧(∀{a:Sr.Sh} {w':X},gX w' (gB Sh W) gs a->Turns Sh W w'->lF w S L gs n z bo fU l a io gM ids lo iB told w'):=by
 obtain⟨⟨g,b,c⟩,d⟩:=h;refine⟨fun k=>g k=.iX,b .iX,fun i f=>⟨⟨_,I4 (wz.law _ _) (Xd.law _ _ _) b i f,wB c d.size⟩,d.trans f (fun k e j=>?_)⟩⟩;rcases c k (by rw[e];intro h;cases h) with h | h
 . exact h
 . omega
theorem lF.create (h:lF w S L gs n z bo fU l s io gM ids lo iB told W)(ok:Sr.Ok s)(a:Int)(m:ay)(c:m.size<=1000000):
 Calls prog 170 #[Q (M ⟨gs,0,U⟩),I J a,V m] W fun e w'=>e=Y (.tuple #[I J (Sr.CU s (Sr.create s a m).2),I J ((Sr.create s a m).2:Int)])∧lF w S L gs n z bo fU l (Sr.create s a m).1 io gM ids lo iB told w':=by
 obtain⟨Sh,d,f⟩:=h.did;exact(zG d ok a m c).mono (fun e w' b=>⟨b.ret,f b.at_ b.turns⟩)
theorem lF.append (h:lF w S L gs n z bo fU l s io gM ids lo iB told W)(ok:Sr.Ok s)(b a:Int){c:Nat}(f:l.length=c)(g:c<=1000000):
 Calls prog 178 #[Q (M ⟨gs,0,U⟩),I J b,I J a,Z bo c fU] W fun e w'=>e=Y (I J ((Sr.append s b a l).2:Int))∧lF w S L gs n z bo fU l (Sr.append s b a l).1 io gM ids lo iB told w':=by
 obtain⟨Sh,i,j⟩:=h.did;exact(qj i ok b a bo c fU l h.bytes f g).mono (fun e w' d=>⟨d.ret,j d.at_ d.turns⟩)
theorem lF.drop (h:lF w S L gs n z bo fU l s io gM ids lo iB told W)(ok:Sr.Ok s)(a:Int):
 Calls prog 180 #[Q (M ⟨gs,0,U⟩),I J a] W fun e w'=>e=Y (I J ((Sr.drop s a).2:Int))∧lF w S L gs n z bo fU l (Sr.drop s a).1 io gM ids lo iB told w':=by
 obtain⟨Sh,c,d⟩:=h.did;exact(yj c ok a).mono (fun e w' b=>⟨b.ret,d b.at_ b.turns⟩)
theorem lF.grown (h:lF w S L gs n z bo fU l s io gM ids lo iB told W){b:ak}{c:Nat}{i:Int}(u:gH W' 0 3 1 b c (ids.length+1) (qW ids++[I J i]))(d:W.grownBy W' (fV io))(f:∀j,fV b=M j->fV io=M j∨W.heap.size<=j):
 (W'.heap[L]? = M (Yx gs io ids.length gM lo told.length iB))∧lF w S L gs n z bo fU l s b c (ids++[i]) lo iB told (W'.setCell ⟨L,1,U⟩ (Z b (ids.length+1) c)):=by
 obtain⟨⟨v,g,m⟩,o⟩:=h;have q:=abM (wz.law _ _) (Xd.law _ _ _) g (Ll:=ids++[i]) (by rw[aV];simpa[qW] using u) d f;have x:=d.size;have r:=(q .row).1;have t:Turns (fun k=>k=L) W' (W'.setCell ⟨L,1,U⟩ (Z b (ids.length+1) c)):=Turns.setCell _ _ _ _ rfl;have y:=Xc (wz.law _ _) (Xd.law _ _ _) q (o':=Yx gs b (ids.length+1) c lo told.length iB) (fu W' L 1 _ _ _ r) t;have B:=(g .row).2;refine⟨r,⟨⟨iC (iC v W.heap.size .ids) W'.heap.size .row,?_,wB (wB m o.size) (dB o.size x)⟩,(o.trans (Turns.iL (S:=fun k=>fV io=M k) d (fun k e=>e)) (fun k e p=>?_)).trans t (fun k e p=>?_)⟩⟩
 . rw[aV];exact y
 . cases io with
   | none=>cases e
   | some a =>
     injection e with e;rw[<-e];rw[<-e] at p;rcases m a.block (by rw[(g .ids).2 a rfl];intro h;cases h) with h | h
     . exact h
     . omega
 . rw[e];rw[e] at p;rcases m L (by rw[B];intro h;cases h) with h | h
   . exact h
   . omega
theorem lF.listed (h:lF w S L gs n z bo fU l s io gM ids lo iB told W):∃f:Nat->Prop,uS lo iB told W f∧∀(a:ak) (c m:Nat) (d:av) (W':X),told.length+d.length=m->uS a c (told++d) W' (gB f W)->Turns f W W' ->
 (W'.heap[L]? = M (Yx gs io ids.length gM lo told.length iB))∧lF w S L gs n z bo fU l s io gM ids a c (told++d) (W'.setCell ⟨L,2,U⟩ (Z a m c)):=by
 obtain⟨⟨o,g,i⟩,j⟩:=h;refine⟨fun k=>o k=.list,g .list,fun a c m d W' u v b=>?_⟩;have p:=Zt (wz.law _ _) (Xd.law _ _ _) g v b;have x:=b.size;have q:=(p .row).1;have r:Turns (fun k=>k=L) W' (W'.setCell ⟨L,2,U⟩ (Z a m c)):=Turns.setCell _ _ _ _ rfl;have y:=Xc (wz.law _ _) (Xd.law _ _ _) p (o':=Yx gs io ids.length gM a m c) (fu W' L 2 _ _ _ q) r;have B:=(g .row).2;refine⟨q,⟨⟨iC (iC o W.heap.size .list) W'.heap.size .row,?_,wB (wB i j.size) (dB j.size x)⟩,(j.trans b (fun k e t=>?_)).trans r (fun k e t=>?_)⟩⟩
 . rw[aV,u];exact y
 . rcases i k (by rw[e];intro h;cases h) with h | h
   . exact h
   . omega
 . rw[e];rw[e] at t;rcases i L (by rw[B];intro h;cases h) with h | h
   . exact h
   . omega
end
section
variable {w w0:X} {S D:Nat->Prop} {L gs:Nat}
theorem Xe (p:wu w0 w S)(r:Gt.Ld)(h:lM w S L gs r.s r.ids r.told)(ok:Sr.Ok r.s)(q:Fm.Pt){bo:ak}{fU nb:Nat}(hB:jI w D bo fU q.bytes)(hD:∀k,D k->¬S k)(hn:q.bytes.length=nb)(hnb:nb<=1000000)(hf:q.file.size<=900000)(hi:r.ids.length<=1000)(ht:r.told.length<=1000000):
 Calls prog 245 #[Q (M ⟨L,0,U⟩),.agg #[V q.name,V q.file,V q.type,Z bo nb fU]] w fun e w'=>e=Y (I J ((Gt.oI r q).code:Int))∧lM w' (gB S w) L gs (Gt.oI r q).s (Gt.oI r q).ids (Gt.oI r q).told∧Turns S w w':=by
 obtain⟨κ,io,gM,lo,iB,hH,hS⟩:=h;have G1:=lF.start hH hS hB hD (K #[V q.name,V q.file,V q.type,Z bo nb fU] 96 (0,0));have i:Hid (∀{s:Sr.Sh} {io:ak} {gM:Nat} {ids:List Int} {lo:ak} {iB:Nat} {l:av} {W:X},lF w S L gs w.heap.size (K #[V q.name,V q.file,V q.type,Z bo nb fU] 96 (0,0)) bo fU q.bytes s io gM ids lo iB l W->((W.cell? ⟨L,0,U⟩=M (Q (M ⟨gs,0,U⟩))∧W.cell? ⟨L,1,U⟩=M (Z io ids.length gM)∧W.cell? ⟨L,2,U⟩=M (Z lo l.length iB))∧(W.frozen? ⟨L,0,U⟩=F∧W.frozen? ⟨L,1,U⟩=F∧W.frozen? ⟨L,2,U⟩=F))∧(W.cell? ⟨w.heap.size,1,U⟩=M (V q.file)∧W.cell? ⟨w.heap.size,3,U⟩=M (Z bo nb fU))):=fun a=>⟨Wi a.row,eZ _ _ 1 _ _ _ a.box,eZ _ _ 3 _ _ _ a.box⟩;obtain⟨⟨⟨B,C,G⟩,H,N,T⟩,b1,b3⟩:=i.o G1;have hmz:(Gt.iU q).size=9+q.file.size:=by
  show(Gt.AR++q.file.data.toList).toArray.size=_;rw[bK,aV,aO];rfl
 have hme:(⟨#[102,105,108,101,110,97,109,101,32]⟩:ay)++q.file=Gt.iU q:=by
  apply ByteArray.ext;rw[ByteArray.data_append];show _=(Gt.AR++q.file.data.toList).toArray;rw[<-eU];simp[Gt.AR]
 have Lf:=H9 ((G1.stay (gy _ _)).create ok (nb:Int) (Gt.iU q) (by omega));have HP:=H9 p;obtain⟨aaj,hR⟩:∃aaj,aaj=Gt.oI r q:=⟨_,rfl⟩;rw[<-hR];unfold Gt.oI at hR;rw[hn] at hR;have c:=H9 hR;have rJ:=H9 (ok.create (nb:Int) (Gt.iU q));have Xf:Hid ((Sr.create r.s (nb:Int) (Gt.iU q)).2≠0->(Sr.create r.s (nb:Int) (Gt.iU q)).1=r.s):=fun e=>Gt.Lb e;have hl0:=ok.h.CJ;have hl1:=ok.FR
 have hzz:¬(9223372036854775807<9+q.file.size):=by omega
 rw[<-hme] at Lf c rJ Xf;clear hme;clear G1 hH hS hB p hR ok hmz;generalize hcr:Sr.create r.s (nb:Int) (⟨#[102,105,108,101,110,97,109,101,32]⟩++q.file)=cr at *;clear hcr;obtain⟨s1,k1⟩:=cr;simp only at c Lf rJ Xf;go_enter func245,ntmps245;go_upto_region 1 with fail
 go_cut [5,6] (fun v5 v6 wd=>v5=I J (Sr.CU r.s k1)∧v6=I J (k1:Int)∧lF w S L gs w.heap.size (K #[V q.name,V q.file,V q.type,Z bo nb fU] 96 (0,0)) bo fU q.bytes s1 io gM r.ids lo iB r.told wd)
 case first =>
  go_region_held3 (fun W=>W.cell? ⟨L,0,U⟩=M (Q (M ⟨gs,0,U⟩))∧W.cell? ⟨w.heap.size,1,U⟩=M (V q.file)∧W.cell? ⟨w.heap.size,3,U⟩=M (Z bo nb fU)) (go_keep) ((go_at_call 170;refine Lf.o.mono ?_;rintro e w1 ⟨rfl,a⟩;have m:=H9 a;obtain⟨⟨⟨d0,d1,d2⟩,e0,e1,e2⟩,d3,d4⟩:=i.o a;clear a))
  all_goals
   go_wp2;go_meet;exact⟨rfl,rfl,m.o⟩
 case rest =>
  obtain⟨rfl,rfl,a⟩:=hcut;clear Lf B C G H N T b1 b3;obtain⟨⟨⟨B,C,G⟩,H,N,T⟩,b1,b3⟩:=i.o a;have m:=H9 a;by_cases t:k1=0
  . subst t;obtain⟨f,v⟩:∃f,f=r.s.h.last+1:=⟨_,rfl⟩;have Sj:Sr.CU r.s 0=f:=by rw[v];exact if_pos rfl
    rw[Sj];rw[<-v,if_neg (by simp)] at c;have Ux:=H9 ((a.stay (gy _ _)).append rJ.o f 0 hn hnb);have I5:=H9 (rJ.o.append f 0 q.bytes);have aj9:0<=f:=by omega
    have akb:f<=100001:=by omega
    clear a Sj v Xf hl0 hl1;obtain⟨n,rfl⟩:∃n:Nat,f=n:=⟨f.toNat,by omega⟩;generalize Sr.append s1 (n:Int) 0 q.bytes=ap at *;obtain⟨s2,k2⟩:=ap;simp only at c Ux I5;go_upto_region 4 with fail
    go_cut [6] (fun v6 wd=>v6=I J (k2:Int)∧lF w S L gs w.heap.size (K #[V q.name,V q.file,V q.type,Z bo nb fU] 96 (0,0)) bo fU q.bytes s2 io gM r.ids lo iB r.told wd)
    case first =>
     go_region_held3 (fun W=>W.cell? ⟨L,0,U⟩=M (Q (M ⟨gs,0,U⟩))∧W.cell? ⟨w.heap.size,3,U⟩=M (Z bo nb fU)) (go_keep) ((go_at_call 178;refine Ux.o.mono ?_;rintro e w1 ⟨rfl,a⟩;have HG2:=H9 a;obtain⟨⟨⟨d0,d1,d2⟩,e0,e1,e2⟩,d3,d4⟩:=i.o a;clear a))
     all_goals
      go_wp2;go_meet;exact⟨rfl,HG2.o⟩
    case rest =>
     obtain⟨rfl,a⟩:=hcut;clear Ux B C G H N T b1 b3 m rJ;obtain⟨⟨⟨B,C,G⟩,H,N,T⟩,b1,b3⟩:=i.o a;have m:=H9 a;by_cases hk2:k2=0
     . subst hk2;rw[if_neg (by simp)] at c;obtain⟨i0,hi0,hz0,x,y⟩:=info_parts yV;have Hi:=H9 hi0;have kY:=H9 hz0;have kT:=H9 x;have kZ:=H9 y
       obtain⟨j0,hj0,hy0,hy1,hy2⟩:=info_parts jJ;have Hj:=H9 hj0;have NQ:=H9 hy0;have NR:=H9 hy1;have NS:=H9 hy2
       have g:=H9 (a.stay ((eY _ wc).alloc (aM _) (K #[I J (n:Int)] 3)));have HOi:=H9 g.o.ints;obtain⟨⟨⟨a0,a1,a2⟩,g0,g1,g2⟩,a3,a4⟩:=i.o g.o;clear a hi0 hz0 x y hj0 hy0 hy1 hy2;go_upto_region 9 with (at_builtin;refine gP rfl (.tmp 45) (.tmp 47) 55 rfl 0 3 i0 (I J 0) 1 8 underlying55 Hi.o kY.o kT.o kZ.o rfl (by decide) rfl HOi.o rfl (ji.made _ _ 1 _ _) rfl (fun u hu=>by simp at hu;rw[hu];rfl) (by omega) (by omega) (aA _) ?_;intro wD jW w3 hO3 b jQ;obtain⟨hr3,hg3⟩:=g.o.grown hO3 b (fun j e=>by rcases jQ with h | h;exact A (h▸e);exact R (by rw[h] at e;injection e with e;omega));have xU:=H9 hg3;obtain⟨⟨h30,h31,h32⟩,y30,y31,y32⟩:=Wi hr3;clear hO3 b jQ hr3 hg3)
       clear a0 a1 a2 a3 a4 g0 g1 g2 h30 h31 h32 y30 y31 y32 B C G H N T b1 b3 m g HOi;generalize w3.setCell ⟨L,1,U⟩ (Z wD (r.ids.length+1) jW)=w4 at *;have Yy:=H9 (xU.o.stay (gy _ _));have hpw:kD w4.drew:=HP.o.pow.stay (HP.o.qy.trans (Yy.o.turns.below (fun k e=>HP.o.far k e) HP.o.qy.size));have HIt:=H9 (pz n (by omega) w4.drew hpw);obtain⟨⟨⟨B,C,G⟩,H,N,T⟩,b1,b3⟩:=i.o xU.o;obtain⟨d,hd⟩:∃d:ay,d=⟨(Ch.iV 8 n).toArray⟩:=⟨_,rfl⟩;have hdz:d.size<=9:=by
        rw[hd];show(Ch.iV 8 n).toArray.size<=9;rw[bK];exact(Ch.jm 8 n).1
       have x:¬(9223372036854775807<d.size+1):=by omega
       have y:¬(9223372036854775807<d.size+1+q.file.size):=by omega
       have hz3:¬(9223372036854775807<d.size+1+q.file.size+1):=by omega
       rw[<-hd] at HIt;have HTl:Hid ((d++⟨#[32]⟩++q.file++⟨#[10]⟩:ay).data.toList=Gt.toldOf (n:Int) q.file):=by
        unfold Hid Gt.toldOf;rw[hd];simp
       have IQ:Hid ((d++⟨#[32]⟩++q.file++⟨#[10]⟩:ay).size=d.size+1+q.file.size+1):=by
        unfold Hid;rw[bL,bL,bL];rfl
       have HTs:Hid ((Gt.toldOf (n:Int) q.file).length=d.size+1+q.file.size+1):=by unfold Hid;rw[<-HTl.o,Ch.iK];exact IQ.o
       clear hpw hd xU HP;go_cut [] (fun wd=>lM wd (gB S w) L gs s2 (r.ids++[(n:Int)]) (r.told++Gt.toldOf (n:Int) q.file)∧Turns S w wd)
       case first =>
        go_region_law (first
         | (go_simp;go_at_call 151;refine HIt.o.mono ?_;rintro e w5 ⟨rfl,hb5⟩;have HG5:=H9 (Yy.o.stay hb5);obtain⟨⟨⟨d0,d1,d2⟩,e0,e1,e2⟩,d3,d4⟩:=i.o HG5.o;clear hb5)
         | (obtain⟨Sl,hSl,hsl⟩:=HG5.o.listed;have HSl:=H9 hSl;have Hsl:=H9 hsl;clear hSl hsl;refine Eh (by rfl) (.tmp 55) (.tmp 62) 31 9 (by rfl) 5 j0 underlying31 underlying9 Hj.o NQ.o NR.o NS.o (by rfl) rfl HSl.o (d++⟨#[32]⟩++q.file++⟨#[10]⟩) (d.size+1+q.file.size+1) IQ.o (by omega) (by rfl) (by omega) ?_;intro lo' uP w6 Ea BF;rw[HTl.o] at Ea;obtain⟨Bh,z⟩:=Hsl.o lo' uP (r.told.length+(d.size+1+q.file.size+1)) (Gt.toldOf (n:Int) q.file) w6 (by rw[HTs.o]) Ea BF;have HG6:=H9 z;obtain⟨⟨h60,h61,h62⟩,y60,y61,y62⟩:=Wi Bh;have hx6:=eZ _ _ 1 _ _ _ z.box;have HX6:=H9 hx6;clear Ea BF Bh z;(try simp only[Act.put,List.setIfInBounds_toArray,dS,List.set_cons_succ])))
        all_goals
         go_wp2;go_meet;exact HG6.o.done
       case rest =>
        go_wp2;go_ret;rw[c.o];exact⟨rfl,hcut⟩
     . have t2:((k2:Int) != 0)=true:=by rw[cK];omega
       rw[if_pos hk2] at c;have HDr:=H9 (a.drop I5.o (n:Int));clear a;go_wp2_with fail
       refine HDr.o.mono ?_;rintro e w3 ⟨rfl,b⟩;have xU:=H9 b;clear b;go_wp2;go_ret;rw[c.o];exact⟨rfl,xU.o.done⟩
  . have t1:((k1:Int) != 0)=true:=by rw[cK];omega
    rw[if_pos t] at c;rw[Xf.o t] at m;clear a;go_wp2;go_ret;rw[c.o];exact⟨rfl,m.o.done⟩
end
def I6 (w:X)(D:Nat->Prop)(ao:ak)(cap:Nat)(ps:List Fm.Pt):Prop:=∃qs:List (Fm.Pt×UG),qs.map (·.1)=ps∧nN w D ao cap ps.length (sW qs)∧∀q∈qs,jI w D q.2.bo q.2.fU q.1.bytes
section
variable {w w':X} {S D D':Nat->Prop} {ao:ak} {cap:Nat} {ps:List Fm.Pt}
theorem I6.turns (h:I6 w D ao cap ps)(a:Turns S w w')(b:∀k,D k->¬S k):I6 w' D ao cap ps:=by
 obtain⟨c,d,e,f⟩:=h;exact⟨c,d,e.turns a b,fun q g=>(f q g).turns a b⟩
theorem I6.aav (h:I6 w D ao cap ps):Ee w ao cap ps:=by
 obtain⟨a,b,c,d⟩:=h;exact⟨a,b,c.is,fun q e=>(d q e).is⟩
theorem I6.at_ (h:I6 w D ao cap ps)(k:Nat)(f:k<ps.length):∃(b o:Nat) (s:UG),ao=M ⟨b,o,U⟩∧w.cell? ⟨b,o+k*4,U⟩=M (V ps[k].name)∧w.cell? ⟨b,o+k*4+1,U⟩=M (V ps[k].file)∧w.cell? ⟨b,o+k*4+2,U⟩=M (V ps[k].type)∧w.cell? ⟨b,o+k*4+3,U⟩=M (Z s.bo ps[k].bytes.length s.fU)∧jI w D s.bo s.fU ps[k].bytes:=by
 obtain⟨c,rfl,g,i⟩:=h;have a:k<c.length:=by simpa using f
 obtain⟨b,o,rfl,d⟩:=g.is.lit (by rw[pG];omega);have j:=i _ (aC a);have e:=oN c k a 0 (by decide);have l:=oN c k a 1 (by decide);have m:=oN c k a 2 (by decide);have n:=oN c k a 3 (by decide);refine⟨b,o,c[k].2,rfl,?_,?_,?_,?_,?_⟩
 . rw[aG];exact d _ _ (by rw[bI] at e;exact e)
 . rw[aG,bJ];exact d _ _ l
 . rw[aG,bJ];exact d _ _ m
 . rw[aG,bJ];exact d _ _ n
 . rw[aG];exact j
theorem pI.agA {b:X}{n:Nat}(h:pI b D ps ao cap n w')(f:∀k,b.heap.size<=k->D k):I6 w' (fun k=>D k∧k<w'.heap.size) ao cap ps:=by
 obtain⟨g,i,c,j⟩:=h.own;refine⟨g,i,⟨by rw[<-h.len];exact c.qE,fun _ a e=>⟨f _ (c.block a e).1,(c.block a e).2⟩⟩,fun q l=>?_⟩;refine((j q l).mono (S':=fun k=>D k∧k<b.heap.size) (fun k d e=>⟨e,d⟩)).turns (Turns.of_below (S:=fun _=>False) h.below) (fun _ _ e=>e) |>.mono (fun k d e=>⟨e.1,d⟩)
end
section
variable {w w0 W W':X} {S S' D:Nat->Prop} {L gs:Nat} {s:Sr.Sh} {io:ak} {gM:Nat} {ids:List Int} {told:av}
theorem lM.mono (h:lM w S L gs s ids told)(c:∀k,k<w.heap.size->S k->S' k):lM w S' L gs s ids told:=by
 obtain⟨f,io,gM,g,i,j,l⟩:=h;refine⟨iC f w.heap.size .out,io,gM,g,i,fun d=>?_,fun k a=>?_⟩
 . by_cases m:d=.out
   . subst m;exact trivial
   . exact(rP kE.kC kE.kC d).mono (j d) (fun k a e=>(iq a).trans e)
 . rcases aT k w.heap.size with b | b
   . rw[iq b] at a;exact c k b (l k a)
   . exact absurd (nI b) a
theorem wu.then_ (p:wu w0 w S)(a:Turns S w W):wu w0 W (gB S w):=⟨p.pow,p.qy.trans (a.below (fun k e=>p.far k e) p.qy.size),fun k e=>by
 rcases e with e | e
 . exact p.far k e
 . exact dB p.qy.size e⟩
theorem Ow (p:wu w0 w S)(r:Gt.Ld)(h:lM w S L gs r.s r.ids r.told)(j:Gt.WS r)(h0:r.code=0)(a:List Fm.Pt){ao:ak}{cap n:Nat}(hP:I6 w D ao cap a)(hD:∀k,D k->¬S k∧k<w.heap.size)(hn:a.length=n)(hN:n<=1000000)(hz:∀q∈a,q.bytes.length<=1000000∧q.file.size<=900000):
 Calls prog 195 #[Q (M ⟨L,0,U⟩),Z ao n cap] w fun e w'=>e=Y (I J ((Gt.adds r a).code:Int))∧lM w' (gB S w) L gs (Gt.adds r a).s (Gt.adds r a).ids (Gt.adds r a).told∧Turns S w w':=by
 subst hn;obtain⟨d,l⟩:∃d,d=Gt.adds r a:=⟨_,rfl⟩;rw[<-l];have HP:=p;have UJ:=H9 hP;have m:=H9 hD;have HZ:=H9 hz
 have hcap:=hP.aav.choose_spec.2.1.1;have pO:∃c:Gt.Ld,d=Gt.adds c (a.drop 0)∧c.code=0∧Gt.WS c∧lM w (gB S w) L gs c.s c.ids c.told∧Turns S w w:=⟨r,l,h0,j,h.mono (fun k _ e=>A e),Turns.refl _ _⟩;go_enter func195,ntmps195;go_wp2;go_loopw [10] (fun vi wr=>∃i:Nat,i<=a.length∧vi=I J i∧∃c:Gt.Ld,d=Gt.adds c (a.drop i)∧c.code=0∧Gt.WS c∧lM wr (gB S w) L gs c.s c.ids c.told∧Turns S w wr) (fun vi _=>a.length-(intOf vi).toNat)
 case atStart=>exact⟨0,aA _,rfl,pO⟩
 case round =>
  obtain⟨i,hi,rfl,c,l,G,f,hL,hT⟩:=hrel;by_cases t:i<a.length
  . have hlt':(i:Int)<a.length:=by omega
    have hPr:=UJ.o.turns hT (fun k e=>(m.o k e).1);obtain⟨b,o,sl,rfl,c0,c1,c2,c3,hIB⟩:=hPr.at_ i t;have hq:=HZ.o a[i] (aC t);rw[aD t] at l;obtain⟨nb,u⟩:∃nb,a[i].bytes.length=nb:=⟨_,rfl⟩;rw[u] at c3;have hnl:nb<=1000000:=by rw[<-u];exact hq.1
    have jc:=(eY _ wr).alloc (aM _) (K #[V a[i].name,V a[i].file,V a[i].type,Z sl.bo nb sl.fU] 96);have y:=hT.trans (Turns.of_below (S:=fun _=>False) jc) (fun _ e _=>e.elim);have z:=hL.stay jc;have hIA:=hIB.turns (Turns.of_below (S:=fun _=>False) jc) (fun _ _ e=>e);generalize a[i]=q at *;obtain⟨H,htf⟩:∃H,(q.file.toList==([]:av))=H:=⟨_,rfl⟩;have eF:q.file.size=0<->H=true:=by
     rw[<-htf,aS,Lib.toList_data,<-List.length_eq_zero_iff,aO];rfl
    have N:=l;have HC:=H9 G;have rJ:=H9 f;have HLA:=H9 z;have v:=H9 y
    cases H with
    | true =>
      have g:d=Gt.adds c (a.drop (i+1)):=by rw[N];unfold Gt.adds;rw[if_pos (eF.2 rfl)];cases a.drop (i+1) <;> rfl
      go_wp2;go_roundw
      case rel=>exact⟨i+1,by omega,by go_num,c,g,HC.o,rJ.o,HLA.o,v.o⟩
      case measure=>simp[intOf];omega
    | false =>
      have hfn:¬q.file.size=0:=fun e=>by have:=eF.1 e;cases this
      have mO:c.ids.length<=12:=by
       rcases f.few with h | h
       . have:=f.ok.h.few;omega
       . exact absurd G h
      have htd:c.told.length<=1000000:=by have:=f.told;omega
      have Zv:=H9 (Xe (HP.then_ y) c z f.ok q hIA (fun k e T=>by
       rcases T with T | T
       . exact(m.o k e).1 T
       . have:=(m.o k e).2;omega) u hnl hq.2 (by omega) htd)
      have I5:=Gt.SL f G q;have g:d=if (Gt.oI c q).code≠0 then Gt.oI c q else Gt.adds (Gt.oI c q) (a.drop (i+1)):=by rw[N];conv=>lhs;unfold Gt.adds;rw[if_neg hfn]
      generalize Gt.oI c q=x at *;go_wp2_with fail
      refine Zv.o.mono ?_;rintro e w5 ⟨rfl,hL5,wm⟩;have BF:Turns S w w5:=v.o.trans wm (fun k e j=>by
       rcases e with e | e
       . exact e
       . omega)
      have hL6:lM w5 (gB S w) L gs x.s x.ids x.told:=hL5.mono (fun k _ e=>by
       rcases e with e | e
       . exact e
       . exact R (dB v.o.size e))
      have B:=BF;have C:=H9 hL6
      by_cases j:x.code=0
      . have tk:((x.code:Int) != 0)=F:=by rw[j];rfl
        rw[if_neg (by rw[j];simp)] at g;go_wp2;go_roundw
        case rel=>exact⟨i+1,by omega,by go_num,x,g,j,I5,C.o,B⟩
        case measure=>simp[intOf];omega
      . have tk:((x.code:Int) != 0)=true:=by rw[cK];omega
        rw[if_pos j] at g;go_wp2;go_ret;rw[g];exact⟨rfl,C.o,B⟩
  . obtain rfl:i=a.length:=by omega
    rw[List.drop_length] at l;have hR2:d=c:=l;have N:=hR2;have HC:=H9 G;have HL:=H9 hL;have HT:=H9 hT
    go_wp2;go_ret;rw[N,HC.o];exact⟨rfl,HL.o,HT.o⟩
structure I7 (w:X)(S:Nat->Prop)(L gs:Nat)(s:Sr.Sh)(io:ak)(gM:Nat)(ids:List Int)(told:av)(W:X):Prop where
 held:∃κ lo iB,Held (En L gs s (Yx gs io ids.length gM lo told.length iB) io gM ids lo iB told zQ zQ) κ W∧∀k,κ k≠.out->gB S w k
 turns:Turns S w W
theorem lM.agD (h:lM w S L gs s ids told):∃io gM,I7 w S L gs s io gM ids told w:=by
 obtain⟨a,io,gM,b,c,d,f⟩:=h;exact⟨io,gM,⟨a,b,c,d,fun k e=>A (f k e)⟩,Turns.refl _ _⟩
theorem I7.done (h:I7 w S L gs s io gM ids told W):lM W (gB S w) L gs s ids told∧Turns S w W:=by
 obtain⟨⟨a,b,c,d,e⟩,f⟩:=h;exact⟨⟨a,io,gM,b,c,d,e⟩,f⟩
theorem I7.cells (h:I7 w S L gs s io gM ids told W):W.cell? ⟨L,0,U⟩=M (Q (M ⟨gs,0,U⟩))∧W.cell? ⟨L,1,U⟩=M (Z io ids.length gM)∧ji W io gM ids.length (qW ids):=by
 obtain⟨⟨b,c,d,a,e⟩,f⟩:=h;exact⟨eZ _ _ 0 _ _ _ (a .row).1,eZ _ _ 1 _ _ _ (a .row).1,(a .ids).1.qE⟩
theorem I7.drop (h:I7 w S L gs s io gM ids told W)(ok:Sr.Ok s)(a:Int):
 Calls prog 180 #[Q (M ⟨gs,0,U⟩),I J a] W fun e w'=>e=Y (I J ((Sr.drop s a).2:Int))∧I7 w S L gs (Sr.drop s a).1 io gM ids told w':=by
 obtain⟨⟨j,g,i,c,d⟩,f⟩:=h;refine(yj (c .iX) ok a).mono (fun e w' b=>⟨b.ret,⟨⟨_,g,i,I4 kE.kC kE.kC c b.at_ b.turns,wB d f.size⟩,f.trans b.turns (fun k e l=>?_)⟩⟩);rcases d k (by rw[e];intro h;cases h) with h | h
 . exact h
 . omega
theorem I8 (s:Sr.Sh)(ids:List Int)(k:Nat)(a:k<ids.length):Gt.nP s (ids.take (k+1))=(Sr.drop (Gt.nP s (ids.take k)) ids[k]).1:=by
 unfold Gt.nP;rw[bM a,dY];rfl
theorem Lm (h:lM w S L gs s ids told)(ok:Sr.Ok s)(v:ids.length<=1000000):
 Calls prog 196 #[Q (M ⟨L,0,U⟩)] w fun e w'=>e=Y (.tuple #[])∧lM w' (gB S w) L gs (Gt.nP s ids) ids told∧Turns S w w':=by
 obtain⟨io,gM,j⟩:=h.agD;obtain⟨n,p,d⟩:=j.cells;have q:=j;have r:=H9 ok
 have k:=d.1;go_enter func196,ntmps196;go_wp2;go_loopw [9] (fun f wr=>∃i:Nat,i<=ids.length∧f=I J i∧I7 w S L gs (Gt.nP s (ids.take i)) io gM ids told wr) (fun f _=>ids.length-(intOf f).toNat)
 case atStart=>exact⟨0,aA _,rfl,q⟩
 case round =>
  obtain⟨i,y,rfl,g⟩:=hrel;obtain⟨n,p,d⟩:=g.cells;by_cases a:i<ids.length
  . have l:(i:Int)<ids.length:=by omega
    obtain⟨b,o,rfl,t⟩:=d.lit (by simp[qW];omega);have z:=t i (I J ids[i]) (by unfold qW;rw[List.getElem?_map,dz a];rfl);have c:=g.drop (Gt.tZ (ids.take i) r.o) ids[i];rw[<-I8 s ids i a] at c;generalize ids[i]=x at *;go_wp2_with fail
    refine c.mono ?_;rintro e B ⟨rfl,u⟩;go_wp2;go_roundw
    case rel=>exact⟨i+1,by omega,by go_num,u⟩
    case measure=>simp[intOf];omega
  . obtain rfl:i=ids.length:=by omega
    have m:=g.done;rw[bN] at m;go_wp2;go_end0
    exact⟨rfl,m⟩
theorem Tj (h:lM w S L gs s ids told):
 Calls prog 197 #[Q (M ⟨L,0,U⟩),I J 0] w fun e w'=>(∃bo fU,e=Y (.agg #[I J 201,Z U 0 0,Z bo told.length fU])∧gN w' bo fU told∧∀a,bo=M a->S a.block)∧Below w.heap.size w w':=by
 obtain⟨o,io,gM,b,d,c,k⟩:=h;obtain⟨⟨p,q,r⟩,_⟩:=Wi (c .row).1;have l:=uS.tQ (c .list);have f:∀a,b=M a->S a.block:=fun a e=>by
  rcases c .list with ⟨i,_⟩ | ⟨g,i,_,m⟩
  . rw[i] at e;cases e
  . rw[i] at e;injection e with e;subst e;exact k g (by rw[m];intro h;cases h)
 have n:=(aL.1 (c .row).1).1;go_enter func197,ntmps197;go_wp2;have j:Below w.heap.size w (w.alloc (K #[I J 201,Z U 0 0,Z b told.length d] 109)):=(eY _ _).alloc (aM _) _;refine fI (v:=.agg #[I J 201,Z U 0 0,Z b told.length d]) (by simp[results,results197,go_sem]) rfl ⟨⟨b,d,rfl,l.stay j,f⟩,j⟩
theorem Tk (c:Nat)(z:c≠0):
 Calls prog 197 #[Q (M ⟨L,0,U⟩),I J (c:Int)] w fun e w'=>e=Y (.agg #[I J (Gt.stat c:Int),Z U 0 0,Z U 0 0])∧Below w.heap.size w w':=by
 have B:=aR.2 (by omega);by_cases h:c=4
 . subst h;go_enter func197,ntmps197;go_wp2_with fail
   refine((fun W=>pF 413 W) _).mono ?_;rintro e d ⟨rfl,a⟩;obtain⟨⟨m,n,p,q,r,u⟩,f⟩:=Ah ((a.block w.heap.size (by simp)).trans (eX w _)) (I J 413) (Z U 0 0) (Z U 0 0);have b:=then_ ((eY _ w).alloc (aM _) _) a;go_wp2;generalize (((d.setCell ⟨w.heap.size,0,U⟩ _).setCell ⟨w.heap.size,1,U⟩ _).setCell ⟨w.heap.size,2,U⟩ _)=x at *;obtain⟨g,i,j,l⟩:=f.o;refine fI (v:=.agg #[I J 413,Z U 0 0,Z U 0 0]) (by simp[results,results197,go_sem,g,i,j]) rfl ⟨rfl,b.trans (l.below (fun k e=>by omega) b.size)⟩
 . have t:((c:Int)==4)=F:=aR.2 (by omega);have y:Gt.stat c=507:=by unfold Gt.stat;rw[if_neg h]
   rw[y];go_enter func197,ntmps197;go_wp2_with fail
   refine((fun W=>pF 507 W) _).mono ?_;rintro e d ⟨rfl,a⟩;obtain⟨⟨m,n,p,q,r,u⟩,f⟩:=Ah ((a.block w.heap.size (by simp)).trans (eX w _)) (I J 507) (Z U 0 0) (Z U 0 0);have b:=then_ ((eY _ w).alloc (aM _) _) a;go_wp2;generalize (((d.setCell ⟨w.heap.size,0,U⟩ _).setCell ⟨w.heap.size,1,U⟩ _).setCell ⟨w.heap.size,2,U⟩ _)=x at *;obtain⟨g,i,j,l⟩:=f.o;refine fI (v:=.agg #[I J 507,Z U 0 0,Z U 0 0]) (by simp[results,results197,go_sem,g,i,j]) rfl ⟨rfl,b.trans (l.below (fun k e=>by omega) b.size)⟩
end
structure QM (S:Nat->Prop)(w:X)(gs:Nat)(r:Sr.Sh×Gt.yA)(e:Ending)(w':X):Prop where
 ret:∃(fo:ak) (fZ nf:Nat) (bo:ak) (fU nb:Nat),e=Y (.agg #[I J (r.2.1:Int),Z fo nf fZ,Z bo nb fU])∧r.2.2.1.length=nf∧ji w' fo fZ nf (gG r.2.2.1)∧r.2.2.2.length=nb∧gN w' bo fU r.2.2.2∧(∀a,fo=M a->gB S w a.block)∧∀a,bo=M a->gB S w a.block
 at_:gX w' (gB S w) gs r.1
 turns:Turns S w w'
section
variable {w w0 W W':X} {S S' D:Nat->Prop} {g gs b:Nat} {s:Sr.Sh}
structure Ar (S:Nat->Prop)(w:X)(gs:Nat)(s:Sr.Sh)(b:Nat)(o:Obj)(W:X):Prop where
 box:W.heap[b]? = M o
 new:w.heap.size<=b
 st:gX W (fun k=>gB S w k∧k≠b) gs s
 turns:Turns S w W
theorem Ar.ends {j x1 x2:Value}(h:Ar S w gs s b (K #[j,x1,x2] 109 (0,0)) W){st:Nat}{mg:Int}(i:(st:Int)=mg){l:au}{body:av}{fo bo:ak}{fZ nf fU nb:Nat}(m:l.length=nf)(n:ji W fo fZ nf (gG l))(c:∀a,fo=M a->gB S w a.block∧a.block≠b)(o:body.length=nb)(p:gN W bo fU body)(d:∀a,bo=M a->gB S w a.block∧a.block≠b):
 (W.cell? ⟨b,0,U⟩=M j∧W.cell? ⟨b,1,U⟩=M x1∧W.cell? ⟨b,2,U⟩=M x2∧W.frozen? ⟨b,0,U⟩=F∧W.frozen? ⟨b,1,U⟩=F∧W.frozen? ⟨b,2,U⟩=F) ∧
 Hid ((((W.setCell ⟨b,0,U⟩ (I J mg)).setCell ⟨b,1,U⟩ (Z fo nf fZ)).setCell ⟨b,2,U⟩ (Z bo nb fU)).cell? ⟨b,0,U⟩=M (I J mg)∧(((W.setCell ⟨b,0,U⟩ (I J mg)).setCell ⟨b,1,U⟩ (Z fo nf fZ)).setCell ⟨b,2,U⟩ (Z bo nb fU)).cell? ⟨b,1,U⟩=M (Z fo nf fZ)∧(((W.setCell ⟨b,0,U⟩ (I J mg)).setCell ⟨b,1,U⟩ (Z fo nf fZ)).setCell ⟨b,2,U⟩ (Z bo nb fU)).cell? ⟨b,2,U⟩=M (Z bo nb fU)∧QM S w gs (s,(st,l,body)) (Y (.agg #[I J mg,Z fo nf fZ,Z bo nb fU])) (((W.setCell ⟨b,0,U⟩ (I J mg)).setCell ⟨b,1,U⟩ (Z fo nf fZ)).setCell ⟨b,2,U⟩ (Z bo nb fU))):=by
 subst i;obtain⟨q,r⟩:=Ah h.box (I J (st:Int)) (Z fo nf fZ) (Z bo nb fU);obtain⟨t,u,v,f⟩:=r.out;refine⟨q,t,u,v,⟨⟨fo,fZ,nf,bo,fU,nb,rfl,m,n.turns f (fun a e=>(c a e).2),o,p.turns f (fun a e=>(d a e).2),fun a e=>(c a e).1,fun a e=>(d a e).1⟩,(h.st.turns f (fun k e x=>e.2 x)).mono (fun k _ e=>e.1),h.turns.trans f (fun k e y=>?_)⟩⟩;have:=h.new;omega
theorem Ar.did {o:Obj}{a:Sr.Sh}(h:Ar S w gs s b o W)(d:gX W' (gB (fun k=>gB S w k∧k≠b) W) gs a)(c:Turns (fun k=>gB S w k∧k≠b) W W'):Ar S w gs a b o W':=by
 have i:=h.turns.size;have f:=(aL.1 h.box).1;refine⟨c.row h.box (fun e=>e.2 rfl),h.new,d.mono (fun k _ e=>?_),h.turns.trans c (fun k e j=>?_)⟩
 . rcases e with e | e
   . exact e
   . exact⟨R (by omega),by omega⟩
 . rcases e.1 with e | e
   . exact e
   . omega
theorem Ar.stay {o:Obj}(h:Ar S w gs s b o W)(a:Below W.heap.size W W'):Ar S w gs s b o W' :=
 ⟨(a.block b (aL.1 h.box).1).trans h.box,h.new,h.st.stay a,h.turns.trans (Turns.of_below (S:=fun _=>False) a) (fun _ e _=>e.elim)⟩
theorem Ar.start (h:gX w S gs s)(z o:Obj):Ar S w gs s (w.heap.size+1) o ((w.alloc z).alloc o)∧((w.alloc z).alloc o).heap[w.heap.size]? = M z:=by
 have c:=(eY _ w).alloc (aM _) z;have a:=(eY _ (w.alloc z)).alloc (aM _) o;have d:(w.alloc z).heap.size=w.heap.size+1:=fG ..;refine⟨⟨?_,by omega,?_,Turns.of_below (then_ c a)⟩,?_⟩
 . have:=eX (w.alloc z) o;rw[d] at this;exact this
 . exact((h.mono (S':=fun k=>gB S w k∧k≠w.heap.size+1) (fun k f e=>⟨A e,by omega⟩)).stay c).stay a
 . exact(a.block w.heap.size (by omega)).trans (eX w z)
theorem lM.sync {L:Nat}{ids:List Int}{a:av}(h:lM w S L gs s ids a):Calls prog 101 #[Q (M ⟨gs,0,U⟩)] w fun e w'=>e=Y (.tuple #[])∧lM w' (gB S w) L gs (Sr.sync s) ids a∧Turns S w w':=by
 obtain⟨p,i,j,l,m,c,d⟩:=h;exact(nC (c .iX)).mono (fun e w' ⟨n,o,f⟩=>⟨n,⟨_,i,j,l,m,I4 kE.kC kE.kC c (gX.mono o (fun k _ e=>A e)) f,wB (fun k e=>A (d k e)) (aM _)⟩,f.mono (fun k e=>d k (by rw[e];intro h;cases h))⟩)
theorem lM.iX {L:Nat}{ids:List Int}{a:av}(h:lM w S L gs s ids a):gX w S gs s:=by
 obtain⟨f,i,j,l,m,c,d⟩:=h;exact gX.mono (c .iX) (fun k _ e=>d k (by rw[e];intro h;cases h))
theorem lM.cell0 {L:Nat}{ids:List Int}{a:av}(h:lM w S L gs s ids a):w.cell? ⟨L,0,U⟩=M (Q (M ⟨gs,0,U⟩)):=by
 obtain⟨d,e,f,i,j,c,k⟩:=h;exact eZ _ _ 0 _ _ _ (c .row).1
structure OU (S:Nat->Prop)(w:X)(gs b L:Nat)(o:Obj)(B:X)(s:Sr.Sh)(ids:List Int)(told:av)(W:X):Prop where
 land:lM W (gB (fun k=>(S k∧k<w.heap.size)∨k=L) B) L gs s ids told
 turns:Turns (fun k=>(S k∧k<w.heap.size)∨k=L) B W
 box:W.heap[b]? = M o
theorem OU.did {L:Nat}{o:Obj}{B:X}{d:Sr.Sh}{ids Ll:List Int}{c a:av}(h:OU S w gs b L o B s ids c W)(j:w.heap.size<=b)(l:b<L)(m:L<B.heap.size)(i:lM W' (gB (gB (fun k=>(S k∧k<w.heap.size)∨k=L) B) W) L gs d Ll a)(f:Turns (gB (fun k=>(S k∧k<w.heap.size)∨k=L) B) W W'):OU S w gs b L o B d Ll a W':=by
 have n:=h.turns.size;refine⟨i.mono (fun k _ e=>?_),h.turns.then_ f,f.row h.box (fun e=>?_)⟩
 . rcases e with e | e
   . exact e
   . exact R (by omega)
 . rcases e with (e | e) | e
   . have:=e.2;omega
   . omega
   . omega
theorem OU.bx {L:Nat}{o:Obj}{B:X}{ids:List Int}{a:av}(h:OU S w gs b L o B s ids a W)(c:w.heap.size<=b)(f:b<L)(i:L<B.heap.size)(d:Below w.heap.size w B):Ar S w gs s b o W:=by
 have j:=h.turns.size;refine⟨h.box,c,h.land.iX.mono (fun k _ e=>?_),(Turns.of_below d).trans h.turns (fun k e l=>?_)⟩
 . rcases e with (e | e) | e
   . exact⟨A e.1,by have:=e.2;omega⟩
   . exact⟨R (by omega),by omega⟩
   . exact⟨R (by omega),by omega⟩
 . rcases e with e | e
   . exact e.1
   . omega
theorem lM.begin_ {n:Nat}(h:gX w (fun k=>S k∧k<n) gs s)(l:n<=w.heap.size):lM (w.alloc (K #[Q (M ⟨gs,0,U⟩),Z U 0 0,Z U 0 0] 252)) (fun k=>S k∧k<n∨k=w.heap.size) w.heap.size gs s [] []:=by
 have j:=(eY _ w).alloc (aM _) (K #[Q (M ⟨gs,0,U⟩),Z U 0 0,Z U 0 0] 252);classical
 refine⟨fun k=>if k=w.heap.size then .row else if S k∧k<n then .iX else .out,U,0,U,0,fun d=>?_,fun k c=>?_⟩
 . cases d with
   | row=>exact⟨eX w _,if_pos rfl⟩
   | iX=>exact gX.mono (h.stay j) (fun k _ e=>by
    show(if k=w.heap.size then Ou.row else if S k∧k<n then .iX else .out)=.iX;rw[if_neg (by have:=e.2;omega),if_pos e])
   | ids=>exact⟨gH.nil _ _ _ _,fun a e=>by cases e⟩
   | list=>exact uS.nil _ _
   | box=>exact trivial
   | out=>exact trivial
 . simp only at c;by_cases f:k=w.heap.size
   . exact R f
   . rw[if_neg f] at c;by_cases i:S k∧k<n
     . exact A i
     . rw[if_neg i] at c;exact absurd rfl c
end
section
variable {w w0:X} {S:Nat->Prop} {g gs:Nat} {s:Sr.Sh}
theorem jl (S:Nat->Prop)(w:X)(b:Nat):∀a,(U:ak)=M a->gB S w a.block∧a.block≠b:=fun a e=>by cases e
theorem Xx (p:wu w0 w S)(h:gX w S gs s)(ok:Sr.Ok s)(hg:w.cell? ⟨g,0,U⟩=M (Q (M ⟨gs,0,U⟩))){m t:ay}{mi ln:Int}{l:au}{fo:ak}{fZ nf:Nat}(hF:pE w l fo fZ nf)(body:av){bo:ak}{fU nb:Nat}(hb:body.length=nb)(hB:gN w bo fU body)(hnb:nb<=20000):
 Calls prog 143 #[Q (M ⟨g,0,U⟩),.agg #[V m,V t,I J mi,Z fo nf fZ,I J ln,Z bo nb fU]] w fun e w'=>QM S w gs (Gt.land s l body) e w':=by
 obtain⟨f,hR⟩:∃f,f=Gt.land s l body:=⟨_,rfl⟩;rw[<-hR];obtain⟨hX,Cx⟩:=Ar.start h (K #[V m,V t,I J mi,Z fo nf fZ,I J ln,Z bo nb fU] 84) (K #[I J 0,Z U 0 0,Z U 0 0] 109);have hlg:=fH w _ hg;have hbb:Below w.heap.size w ((w.alloc (K #[V m,V t,I J mi,Z fo nf fZ,I J ln,Z bo nb fU] 84)).alloc (K #[I J 0,Z U 0 0,Z U 0 0] 109)):=then_ ((eY _ w).alloc (aM _) _) ((eY _ _).alloc (aM _) _);have ZE:=Ef (hF.stay hbb);have pO:∀W,Below w.heap.size w W->gX W (fun k=>S k∧k<w.heap.size) gs s:=fun W hW=>(h.mono (S':=fun k=>S k∧k<w.heap.size) (fun k hk e=>⟨e,hk⟩)).stay hW;have HIb:∀W,Below w.heap.size w W->gN W bo fU body:=fun W hW=>hB.stay hW;have HG:∀W,Below w.heap.size w W->W.cell? ⟨g,0,U⟩=M (Q (M ⟨gs,0,U⟩)):=fun W hW=>(hW.cell (p:=⟨g,0,U⟩) hlg).trans hg;have HP:=p;have rJ:=H9 ok
 have hs1:((w.alloc (K #[V m,V t,I J mi,Z fo nf fZ,I J ln,Z bo nb fU] 84)).alloc (K #[I J 0,Z U 0 0,Z U 0 0] 109)).heap.size=w.heap.size+2:=by simp
 go_enter func143,ntmps143;go_upto_region 1 with fail
 generalize hW1:((w.alloc (K #[V m,V t,I J mi,Z fo nf fZ,I J ln,Z bo nb fU] 84)).alloc (K #[I J 0,Z U 0 0,Z U 0 0] 109))=W1 at *;have a3:=eZ W1 _ 3 _ _ _ Cx;simp at a3;have HX:=hX;have vP:=H9 hbb;have HZr:=H9 Cx;have UF:=H9 hs1
 go_wp2_with fail
 refine ZE.mono ?_;rintro e w1 ⟨rfl,D⟩;have G:=HX.stay D;have HB1:=then_ vP.o D;have hsz1:=D.size;have a5:w1.cell? ⟨w.heap.size,5,U⟩=M (Z bo nb fU):=by
  have:=eZ w1 _ 5 _ _ _ ((D.block w.heap.size (by have:=UF.o;omega)).trans HZr.o);simpa using this
 have aer:w.heap.size+2<=w1.heap.size:=by have:=UF.o;omega
 cases H:Gt.bound l with
 | none =>
   have HR:f=(s,(415,[],[])):=hR.trans (Gt.TL H);have H5:=fun W=>pF 415 W;simp only[Option.elim,Option.isSome];go_wp2_with fail
   refine(H5 _).mono ?_;rintro e N ⟨rfl,i⟩;obtain⟨⟨z0,z1,z2,y0,y1,y2⟩,T⟩:=(G.stay i).ends (st:=415) (mg:=415) rfl (l:=[]) (body:=[]) rfl (ji.nil _) (jl _ _ _) rfl (gN.nil _) (jl _ _ _);go_wp2;generalize (((N.setCell ⟨w.heap.size+1,0,U⟩ _).setCell ⟨w.heap.size+1,1,U⟩ _).setCell ⟨w.heap.size+1,2,U⟩ _)=wf at *;obtain⟨q0,q1,q2,q3⟩:=T.o;refine fI (v:=.agg #[I J 415,Z U 0 0,Z U 0 0]) (by simp[results,results143,go_sem,q0,q1,q2]) rfl ?_;rw[HR];exact q3
 | some bd =>
   simp only[Option.elim,Option.isSome];have HRd:=Xq (Gt.txt bd) body bo fU nb w1 (HIb _ HB1) hb hnb;rw[show(Gt.txt bd).data.toList=bd from by unfold Gt.txt;simp] at HRd;go_wp2_with fail
   refine HRd.mono ?_;rintro e N hRd;cases hRd with
   | no c hc ag4 he i =>
     subst he;have hpn:Gt.parts bd body=U:=by
      unfold Gt.parts;rw[if_neg];rintro ⟨e1,e2⟩;rcases ag4 with ⟨h1,_⟩ | ⟨_,h1⟩
      . rw[h1] at e1;cases e1
      . exact hc (by rw[<-h1];exact e2)
     have HR:f=(s,(400,[],[])):=hR.trans (Gt.Xw H hpn);have tc:((c:Int) != 0)=true:=by rw[cK];omega
     have WU:=G.stay i;have H4:=fun W=>pF 400 W;go_wp2_with fail
     refine(H4 _).mono ?_;rintro e w3 ⟨rfl,b⟩;obtain⟨⟨z0,z1,z2,y0,y1,y2⟩,T⟩:=(WU.stay b).ends (st:=400) (mg:=400) rfl (l:=[]) (body:=[]) rfl (ji.nil _) (jl _ _ _) rfl (gN.nil _) (jl _ _ _);go_wp2;generalize (((w3.setCell ⟨w.heap.size+1,0,U⟩ _).setCell ⟨w.heap.size+1,1,U⟩ _).setCell ⟨w.heap.size+1,2,U⟩ _)=wf at *;obtain⟨q0,q1,q2,q3⟩:=T.o;refine fI (v:=.agg #[I J 400,Z U 0 0,Z U 0 0]) (by simp[results,results143,go_sem,q0,q1,q2]) rfl ?_;rw[HR];exact q3
   | yes hm hcl w15 aes ao cap n he hP i =>
     subst he;obtain⟨C,hps⟩:∃C,C=Fm.pR (lT (Fm.outs (Fm.mark bd) Fm.start body)):=⟨_,rfl⟩;have hpp:Gt.parts bd body=M C:=by unfold Gt.parts;rw[if_pos ⟨hm,hcl⟩,hps]
     rw[<-hps] at hP;obtain⟨hrm,hpl,hpz⟩:=Gt.LK hpp (by have:=(wG hm).long;omega) (wG hm).good (by decide) (by rw[hb];exact hnb);have hn:=hP.len;subst hn;have hPD:=hP.agA (fun k e=>dB aes e);have hB2:=then_ HB1 i;have ag6:w.heap.size+2<=N.heap.size:=dB aer i.size;have hX2:=G.stay i;have hgc:=HG N hB2;have HRo:=Og (hPD.aav.stay (gy _ _)) rfl hrm;have zP:Below w.heap.size w N.drew:=then_ hB2 (gy _ _);obtain⟨rm,ab6⟩:∃rm,rm=Gt.room C:=⟨_,rfl⟩;rw[<-ab6] at HRo hrm;have TI:=fun W (hW:Below w.heap.size w W)=>uE (pO W hW) (rm:Int);obtain⟨bf,hbf⟩:∃bf,bf=decide (100000<s.log.length+rm):=⟨_,rfl⟩;have hrb:(decide ((0:Int)<=(rm:Int))&&decide ((rm:Int)<=100000-(s.log.length:Int)))=!bf:=by
      rw[hbf,aI (by omega:(0:Int)<=(rm:Int)),Bool.true_and,<-decide_not,decide_eq_decide];omega
     rw[hrb] at TI;have HBf:=H9 hbf;have HRe:=H9 ab6
     clear hbf ab6;have WU:=H9 hX2;have u:=H9 hB2;have HPD:=H9 hPD;have HPz:=H9 hpz
     clear hP hps hm hcl aes hPD hB2 hX2 hpz HRd i G HB1 hrb;go_upto_region 7 with fail
     go_cut [31] (fun v wd=>v=.bool bf∧Below N.heap.size N wd)
     case first =>
      go_region_held3 (fun W=>W.cell? ⟨g,0,U⟩=M (Q (M ⟨gs,0,U⟩))) (go_keep) (first
       | (go_at_call 194;refine HRo.mono ?_;rintro e w3 ⟨rfl,b⟩;have HB3:Hid (Below N.heap.size N w3):=then_ (gy _ _) b;have hg3:=HG w3 (then_ u.o HB3.o);clear b)
       | (go_at_call 177;refine(TI _ (then_ u.o HB3.o)).mono ?_;rintro e w4 ⟨rfl,hw⟩;subst hw))
      all_goals
       go_wp2;go_meet;exact⟨rfl,HB3.o⟩
     case rest =>
      obtain⟨rfl,b⟩:=hcut;have HX3:=(WU.stay b);have HB3:=H9 b
      clear hgc HRo TI zP WU;cases bf with
      | true =>
        have q:=cZ HBf.o.symm;have HR:f=(s,(507,[],[])):=hR.trans (Gt.TM H hpp (by rw[<-HRe.o];exact q));have H4:=fun W=>pF 507 W;go_wp2_with fail
        refine(H4 _).mono ?_;rintro e w3 ⟨rfl,b⟩;obtain⟨⟨z0,z1,z2,y0,y1,y2⟩,T⟩:=(HX3.stay b).ends (st:=507) (mg:=507) rfl (l:=[]) (body:=[]) rfl (ji.nil _) (jl _ _ _) rfl (gN.nil _) (jl _ _ _);go_wp2;generalize (((w3.setCell ⟨w.heap.size+1,0,U⟩ _).setCell ⟨w.heap.size+1,1,U⟩ _).setCell ⟨w.heap.size+1,2,U⟩ _)=wf at *;obtain⟨q0,q1,q2,q3⟩:=T.o;refine fI (v:=.agg #[I J 507,Z U 0 0,Z U 0 0]) (by simp[results,results143,go_sem,q0,q1,q2]) rfl ?_;rw[HR];exact q3
      | false =>
        have q:=of_decide_eq_false HBf.o.symm;have HR:f=Gt.ends (Gt.adds ⟨s,[],[],0⟩ C):=hR.trans (Gt.TN H hpp (by rw[<-HRe.o];exact q));have hgc:=HG wc (then_ u.o b);have hz3:=b.size;have hz2:=u.o.size
        have hL0:=lM.begin_ (pO wc (then_ u.o b)) (by omega);have hbL:=(eY _ wc).alloc (aM _) (K #[Q (M ⟨gs,0,U⟩),Z U 0 0,Z U 0 0] 252);have ag7:=HPD.o.turns (Turns.of_below (S:=fun _=>False) (then_ b hbL)) (fun _ _ e=>e);have hwB:=then_ (then_ u.o b) hbL;have hpw:wu w0 (wc.alloc (K #[Q (M ⟨gs,0,U⟩),Z U 0 0,Z U 0 0] 252)) (fun k=>(S k∧k<w.heap.size)∨k=wc.heap.size):=⟨HP.pow,HP.qy.trans (hwB.mono HP.qy.size),fun k e=>by
         rcases e with e | e
         . exact HP.far k e.1
         . have:=HP.qy.size;omega⟩
        have HAA:=H9 (Ow hpw ⟨s,[],[],0⟩ hL0 ⟨rJ.o,aA _,A (aA _)⟩ rfl C ag7 (fun k e=>⟨fun e2=>by
         rcases e2 with e2 | e2
         . have:=e2.2;have:=aer;omega
         . omega,by rw[fG];omega⟩) rfl hpl HPz.o)
        have HX0:OU S w gs (w.heap.size+1) wc.heap.size (K #[I J 0,Z U 0 0,Z U 0 0] 109) (wc.alloc (K #[Q (M ⟨gs,0,U⟩),Z U 0 0,Z U 0 0] 252)) s [] [] (wc.alloc (K #[Q (M ⟨gs,0,U⟩),Z U 0 0,Z U 0 0] 252)):=⟨hL0.mono (fun k _ e=>A e),Turns.refl _ _,(HX3.stay hbL).box⟩;have d:w.heap.size<=w.heap.size+1∧w.heap.size+1<wc.heap.size∧wc.heap.size<(wc.alloc (K #[Q (M ⟨gs,0,U⟩),Z U 0 0,Z U 0 0] 252)).heap.size:=⟨by omega,by have:=ag6;have:=b.size;omega,by rw[fG];omega⟩;have ag9:=Gt.IY C (r:=⟨s,[],[],0⟩) rJ.o;have aha:=Gt.Es C ⟨s,[],[],0⟩;have ahb:(Gt.adds ⟨s,[],[],0⟩ C).ids.length<=1000000:=by simp at aha;omega
        generalize Gt.adds ⟨s,[],[],0⟩ C=j at *;go_upto_region 10 with fail
        generalize hBB:(wc.alloc (K #[Q (M ⟨gs,0,U⟩),Z U 0 0,Z U 0 0] 252))=B at *;go_wp2_with fail
        refine HAA.o.mono ?_;rintro e w5 ⟨rfl,hL5,wm⟩;have y:OU S w gs (w.heap.size+1) wc.heap.size (K #[I J 0,Z U 0 0,Z U 0 0] 109) B j.s j.ids j.told w5:=HX0.did d.1 d.2.1 d.2.2 (hL5.mono (fun k _ e=>by
         rcases e with e | e
         . exact A (A e)
         . exact R e)) (wm.mono (fun k e=>A e))
        by_cases z:j.code=0
        . have tc:((j.code:Int) != 0)=F:=by rw[z];rfl
          have HRr:f=(Sr.sync j.s,(201,[],j.told)):=by rw[HR];unfold Gt.ends;rw[if_pos z]
          have k0:=y.land.cell0;have IE:=y.land.sync;rw[z];go_wp2_with fail
          refine IE.mono ?_;rintro e w6 ⟨rfl,hL6,BF⟩;have x:=y.did d.1 d.2.1 d.2.2 hL6 BF;have HRp:=Tj x.land;go_wp2_with fail
          refine HRp.mono ?_;rintro e w7 ⟨⟨bo7,aew,rfl,hB7,hS7⟩,ZN⟩;obtain⟨⟨z0,z1,z2,y0,y1,y2⟩,T⟩:=((x.bx d.1 d.2.1 d.2.2 hwB).stay ZN).ends (st:=201) (mg:=201) rfl (l:=[]) (body:=j.told) rfl (ji.nil _) (jl _ _ _) rfl hB7 (fun a e=>by
           have:=d;rcases hS7 a e with (h1 | h1) | h1
           . exact⟨A h1.1,by have:=h1.2;omega⟩
           . exact⟨R (by omega),by omega⟩
           . exact⟨R (by omega),by omega⟩)
          go_wp2;generalize (((w7.setCell ⟨w.heap.size+1,0,U⟩ _).setCell ⟨w.heap.size+1,1,U⟩ _).setCell ⟨w.heap.size+1,2,U⟩ _)=wf at *;obtain⟨q0,q1,q2,q3⟩:=T.o;refine fI (v:=.agg #[I J 201,Z U 0 0,Z bo7 j.told.length aew]) (by simp[results,results143,go_sem,q0,q1,q2]) rfl ?_;rw[HRr];exact q3
        . have tc:((j.code:Int) != 0)=true:=by rw[cK];omega
          have HRr:f=(Sr.sync (Gt.nP j.s j.ids),(Gt.stat j.code,[],[])):=by rw[HR];unfold Gt.ends;rw[if_neg z]
          have HDa:=Lm y.land ag9 ahb;have vW:=fun(W:X)=>Tk (L:=wc.heap.size) (w:=W) j.code z;go_wp2_with fail
          refine HDa.mono ?_;rintro e w6 ⟨rfl,hL6,BF⟩;have x:=y.did d.1 d.2.1 d.2.2 hL6 BF;have k0:=x.land.cell0;have IE:=x.land.sync;go_wp2_with fail
          refine IE.mono ?_;rintro e w7 ⟨rfl,hL7,Eb⟩;have HX7:=x.did d.1 d.2.1 d.2.2 hL7 Eb;go_wp2_with fail
          refine(vW _).mono ?_;rintro e w8 ⟨rfl,YA⟩;obtain⟨⟨z0,z1,z2,y0,y1,y2⟩,T⟩:=((HX7.bx d.1 d.2.1 d.2.2 hwB).stay YA).ends (st:=Gt.stat j.code) (mg:=(Gt.stat j.code:Int)) rfl (l:=[]) (body:=[]) rfl (ji.nil _) (jl _ _ _) rfl (gN.nil _) (jl _ _ _);go_wp2;generalize (((w8.setCell ⟨w.heap.size+1,0,U⟩ _).setCell ⟨w.heap.size+1,1,U⟩ _).setCell ⟨w.heap.size+1,2,U⟩ _)=wf at *;obtain⟨q0,q1,q2,q3⟩:=T.o;refine fI (v:=.agg #[I J (Gt.stat j.code:Int),Z U 0 0,Z U 0 0]) (by simp[results,results143,go_sem,q0,q1,q2]) rfl ?_;rw[HRr];exact q3
end
section
variable {w w0:X} {S:Nat->Prop} {g gs:Nat} {s:Sr.Sh}
theorem ZO (t:ay):Tu.ours t=Gt.ours t:=rfl
theorem OV (p:wu w0 w S)(h:gX w S gs s)(ok:Sr.Ok s)(hg:w.cell? ⟨g,0,U⟩=M (Q (M ⟨gs,0,U⟩))){m t:ay}{mi ln:Int}{l:au}{fo:ak}{fZ nf:Nat}(hF:pE w l fo fZ nf)(body:av){bo:ak}{fU nb:Nat}(hb:body.length=nb)(hB:gN w bo fU body)(hnb:nb<=20000)(ht:t.size<=100000):
 Calls prog 86 #[Q (M ⟨g,0,U⟩),.agg #[V m,V t,I J mi,Z fo nf fZ,I J ln,Z bo nb fU]] w fun e w'=>QM S w gs (Gt.answer Tu.iQ s m t l body) e w':=by
 obtain⟨H,c⟩:∃H,H=Gt.answer Tu.iQ s m t l body:=⟨_,rfl⟩;rw[<-c];unfold Gt.answer at c;obtain⟨hX,B⟩:=Ar.start h (K #[V m,V t,I J mi,Z fo nf fZ,I J ln,Z bo nb fU] 84) (K #[I J 0,Z U 0 0,Z U 0 0] 109);have hlg:=fH w _ hg;have f:Below w.heap.size w ((w.alloc (K #[V m,V t,I J mi,Z fo nf fZ,I J ln,Z bo nb fU] 84)).alloc (K #[I J 0,Z U 0 0,Z U 0 0] 109)):=then_ ((eY _ w).alloc (aM _) _) ((eY _ _).alloc (aM _) _);have hs1:((w.alloc (K #[V m,V t,I J mi,Z fo nf fZ,I J ln,Z bo nb fU] 84)).alloc (K #[I J 0,Z U 0 0,Z U 0 0] 109)).heap.size=w.heap.size+2:=by simp
 have d:=fun W=>Sm t W ht;have L:=fun st W=>pF st W;go_enter func86,ntmps86;go_upto_region 1 with fail
 generalize hW1:((w.alloc (K #[V m,V t,I J mi,Z fo nf fZ,I J ln,Z bo nb fU] 84)).alloc (K #[I J 0,Z U 0 0,Z U 0 0] 109))=j at *;have a0:=eZ j _ 0 _ _ _ B;have a1:=eZ j _ 1 _ _ _ B;have a2:=eZ j _ 2 _ _ _ B;have a3:=eZ j _ 3 _ _ _ B;have a4:=eZ j _ 4 _ _ _ B;have a5:=eZ j _ 5 _ _ _ B;have hg1:=(f.cell (p:=⟨g,0,U⟩) hlg).trans hg;have N:=hX.st;have T:=hF.stay f;have hB1:=hB.stay f;have i:wu w0 j (fun k=>gB S w k∧k≠w.heap.size+1):=⟨p.pow,p.qy.trans (f.mono p.qy.size),fun k e=>by
  rcases e.1 with e | e
  . exact p.far k e
  . exact dB p.qy.size e⟩
 have HX:=hX;have UF:=H9 hs1
 rw[show Gt.ours t=Tu.ours t from(ZO t).symm] at c;cases ho:Tu.ours t with
 | true =>
   rw[ho,if_pos rfl] at c;have ZP:=QL (m:=m) (t:=t) (mi:=mi) (ln:=ln) (bo:=bo) (fU:=fU) (nb:=nb) (w:=j.drew) ⟨i.pow,then_ i.qy (gy _ _),i.far⟩ (N.stay (gy _ _)) ok (T.stay (gy _ _)) body hb (hB1.stay (gy _ _)) (by omega) ht;rw[ho] at d;generalize Tu.iQ s m t l body=tr at *;obtain⟨s2,b,l2⟩:=tr;go_wp2_with fail
   refine(d _).mono ?_;rintro e w1 ⟨rfl,n⟩;subst n;go_upto_region 2 with fail
   go_cut [] (fun wd=>∃(C:ak) (D G:Nat),wd.cell? ⟨w.heap.size+1,0,U⟩=M (I J (b:Int))∧wd.cell? ⟨w.heap.size+1,1,U⟩=M (Z C D G)∧wd.cell? ⟨w.heap.size+1,2,U⟩=M (Z U 0 0)∧QM S w gs (s2,(b,l2,[])) (Y (.agg #[I J (b:Int),Z C D G,Z U 0 0])) wd)
   case first =>
    go_region_law (first
     | (go_simp;go_at_call 41;refine ZP.mono ?_;rintro e w9 ⟨⟨C,G,D,rfl,lK,jX⟩,jA,qB⟩;have hX9:=(HX.stay (gy _ _)).did jA qB;obtain⟨⟨z0,z1,z2,y0,y1,y2⟩,q⟩:=hX9.ends (st:=b) (mg:=(b:Int)) rfl (l:=l2) (body:=[]) lK jX.qE (fun a e=>by have h1:w1.heap.size<=a.block:=(jX.block a e).1;have:=UF.o;exact⟨R (by omega),by omega⟩) rfl (gN.nil _) (jl _ _ _);clear lK jX jA qB hX9))
    all_goals
     go_wp2;go_meet;exact⟨C,D,G,q.o⟩
   case rest =>
    obtain⟨C,D,G,r,u,x,y⟩:=hcut;go_wp2;refine fI (v:=.agg #[I J (b:Int),Z C D G,Z U 0 0]) (by simp[results,results86,go_sem,r,u,x]) rfl ?_;rw[c];exact y
 | false =>
   rw[ho,if_neg (by simp)] at c;rw[ho] at d;obtain⟨tt,htt⟩:∃tt,(t.toList==([47,102,111,114,109]:av))=tt:=⟨_,rfl⟩;have eT:t=Gt.aaf<->tt=true:=by
    rw[<-htt,aS,Lib.toList_data,ByteArray.ext_iff,<-eU];rfl
   obtain⟨tm,htm⟩:∃tm,(m.toList==([80,79,83,84]:av))=tm:=⟨_,rfl⟩;have eM:m=Gt.AL<->tm=true:=by
    rw[<-htm,aS,Lib.toList_data,ByteArray.ext_iff,<-eU];rfl
   cases tt with
   | false =>
     rw[if_pos (fun e=>by have:=eT.1 e;cases this)] at c;go_wp2_with fail
     refine(d _).mono ?_;rintro e w1 ⟨rfl,n⟩;subst n;go_wp2_with fail
     refine(L 404 _).mono ?_;rintro e w3 ⟨rfl,z⟩;obtain⟨⟨z0,z1,z2,y0,y1,y2⟩,q⟩:=(HX.stay z).ends (st:=404) (mg:=404) rfl (l:=[]) (body:=[]) rfl (ji.nil _) (jl _ _ _) rfl (gN.nil _) (jl _ _ _);go_wp2;generalize (((w3.setCell ⟨w.heap.size+1,0,U⟩ _).setCell ⟨w.heap.size+1,1,U⟩ _).setCell ⟨w.heap.size+1,2,U⟩ _)=wf at *;obtain⟨r,u,x,y⟩:=q.o;refine fI (v:=.agg #[I J 404,Z U 0 0,Z U 0 0]) (by simp[results,results86,go_sem,r,u,x]) rfl ?_;rw[c];exact y
   | true =>
     rw[if_neg (fun e=>e (eT.2 rfl))] at c;cases tm with
     | false =>
       rw[if_pos (fun e=>by have:=eM.1 e;cases this)] at c;go_wp2_with fail
       refine(d _).mono ?_;rintro e w1 ⟨rfl,n⟩;subst n;go_wp2_with fail
       refine(L 405 _).mono ?_;rintro e w3 ⟨rfl,z⟩;obtain⟨⟨z0,z1,z2,y0,y1,y2⟩,q⟩:=(HX.stay z).ends (st:=405) (mg:=405) rfl (l:=[]) (body:=[]) rfl (ji.nil _) (jl _ _ _) rfl (gN.nil _) (jl _ _ _);go_wp2;generalize (((w3.setCell ⟨w.heap.size+1,0,U⟩ _).setCell ⟨w.heap.size+1,1,U⟩ _).setCell ⟨w.heap.size+1,2,U⟩ _)=wf at *;obtain⟨r,u,x,y⟩:=q.o;refine fI (v:=.agg #[I J 405,Z U 0 0,Z U 0 0]) (by simp[results,results86,go_sem,r,u,x]) rfl ?_;rw[c];exact y
     | true =>
       rw[if_neg (fun e=>e (eM.2 rfl))] at c;have HFm:=Xx (g:=g) (m:=m) (t:=t) (mi:=mi) (ln:=ln) i N ok hg1 T body hb hB1 hnb;generalize Gt.land s l body=tr at *;obtain⟨s2,b,l2,b2⟩:=tr;go_wp2_with fail
       refine(d _).mono ?_;rintro e w1 ⟨rfl,n⟩;subst n;go_wp2_with fail
       refine HFm.mono ?_;rintro e w9 ⟨⟨fo9,aey,nf9,bo9,aez,nb9,rfl,lK,hF9,hm9,pV,hf9,hb9⟩,jA,qB⟩;have hno:∀k,gB (fun k=>gB S w k∧k≠w.heap.size+1) w1 k->gB S w k∧k≠w.heap.size+1:=fun k e=>by
        have:=UF.o;rcases e with e | e
        . exact e
        . exact⟨R (by omega),by omega⟩
       obtain⟨⟨z0,z1,z2,y0,y1,y2⟩,q⟩:=(HX.did jA qB).ends (st:=b) (mg:=(b:Int)) rfl (l:=l2) (body:=b2) lK hF9 (fun a e=>hno _ (hf9 a e)) hm9 pV (fun a e=>hno _ (hb9 a e));go_wp2;generalize (((w9.setCell ⟨w.heap.size+1,0,U⟩ _).setCell ⟨w.heap.size+1,1,U⟩ _).setCell ⟨w.heap.size+1,2,U⟩ _)=wf at *;obtain⟨r,u,x,y⟩:=q.o;refine fI (v:=.agg #[I J (b:Int),Z fo9 nf9 aey,Z bo9 nb9 aez]) (by simp[results,results86,go_sem,r,u,x]) rfl ?_;rw[c];exact y
end
theorem Mr (l:List Int):(qW l).length=l.length:=by unfold qW;rw[aF]
theorem Yf (l:List Int):∀u∈qW l,u.oneCell'=true:=fun u a=>by
 obtain⟨i,_,rfl⟩:=aN.1 a;rfl
theorem FH (l:List Int)(fo:ak)(fZ n:Nat)(w:X)(f:ji w fo fZ n (qW l))(s:l.length=n)(N:n<=1000000):
 Calls prog 68 #[Z fo n fZ] w fun e w'=>∃ao cap,e=Y (Z ao n cap)∧gH w' w.heap.size 3 1 ao cap n (qW l)∧Below w.heap.size w w':=by
 have S:∀(w:X) (a:ak) (n c g i:Nat),(binOp .eql 55 (Z a n c) (Z U g i)).run prog w=.ok (.bool a.isNone) w:=fun w a n c g i=>Lib.run_eql_slice_nil w _ _ a n c g i underlying55;cases fo with
 | none =>
   have T:=f.2.1 rfl;have j:n=0:=by have:=f.1;omega
   subst j;obtain rfl:l=[]:=dh s;go_enter func68,ntmps68;go_wp2;go_ret;exact⟨U,0,rfl,gH.nil _ _ _ _,eY _ _⟩
 | some a =>
   have t:=Mr l;obtain⟨u,k,m,p,r⟩:=info_parts yV;have v:=k;have x:=H9 m;have y:=H9 p;have z:=H9 r
   have B:(qW l).length=n*1:=by rw[s] at t;omega
   go_enter func68,ntmps68;go_wp2_with (at_builtin;refine gP rfl (.tmp 5) (.tmp 6) 55 rfl w.heap.size 3 u (I J 0) 1 8 underlying55 v x.o y.o z.o rfl (by decide) (n:=0) (xs:=[]) rfl (fM _ #[] 0 (by simp) (by decide) rfl) rfl (f.alloc _) B (Yf l) (by omega) (by omega) (by simp) ?_;intro C D W b d G;have H:=H9 b;have L:=H9 d;clear b d G)
   go_ret;refine⟨C,D,by simp,?_,?_⟩
   . have:=H.o;rw[dx,aZ] at this;exact this
   . exact((eY _ _).alloc (aM _) _).grown L.o (by simp) (fun q e=>by simp[fV] at e;omega)
end Go.Proofs.YthhklgjjnaeaoaaGreatDoor