import Derived.Deep.RegionHeld3
import Derived.Test.YtmbghcpcbdjfoaaGreatDoorPk14
import Derived.Test.YtmbghcpcbdjfoaaGreatDoorRqNum
open Go.Value renaming int->I,string->V,slice->Z
open Go.IntKind renaming i64->J
open Go.Ending renaming returned->Y
open Option renaming none->U,some->M
open Bool renaming false->F
open Go renaming World->X
set_option maxHeartbeats 2000000
set_option maxRecDepth 100000
open Go.Proofs.Tryz
namespace Go.Proofs.YtmbghcpcbdjfoaaGreatDoor
open Go.RowKit
structure oL (w W:X):Prop where
 b:W.cell? ⟨w.heap.size,0,U⟩=M (V ⟨#[]⟩)
 c:W.cell? ⟨w.heap.size,1,U⟩=M (V ⟨#[]⟩)
 d:W.frozen? ⟨w.heap.size,0,U⟩=F
 e:W.frozen? ⟨w.heap.size,1,U⟩=F
 below:Below w.heap.size w W
 g:w.heap.size<W.heap.size
theorem oL.j (w:X)(t:Nat):oL w (w.alloc (.cells #[V ⟨#[]⟩,V ⟨#[]⟩] t)) :=
 ⟨World.cell?_alloc_mark w _ _ _ 0,World.cell?_alloc_mark w _ _ _ 1,World.frozen?_alloc_mark w _ _ _ _ 0,World.frozen?_alloc_mark w _ _ _ _ 1,(aq _ _).alloc (ak _) _,by simp⟩
theorem oL.a {w W W':X}(h:oL w W)(a:Below W.heap.size W W'):oL w W' :=
 ⟨(a.cell (p:=⟨w.heap.size,0,U⟩) h.g).trans h.b,(a.cell (p:=⟨w.heap.size,1,U⟩) h.g).trans h.c,(a.frozen (p:=⟨w.heap.size,0,U⟩) h.g).trans h.d,(a.frozen (p:=⟨w.heap.size,1,U⟩) h.g).trans h.e,ar h.below a,ml h.g a.size⟩
theorem oL.f {w W:X}(h:oL w W)(n:Nat):oL w (W.drewN n):=h.a (jp ⟨n,rfl⟩)
theorem zs (s:ag)(w:X)(hs:s.size<=2000):
 Calls prog 235 #[V s] w fun e w'=>e=Y (qT (aP s.data.toList))∧Below w.heap.size w w':=by
 have d:=fun W=>uv s 58 W (by unfold maxLen;omega);have H:s.data.toList.length=s.size:=by rw[cy];rfl
 have g:=aa (DC s.data.toList);rw[H] at g;unfold kO at d;by_cases u:bg 58 s.data.toList=s.size
 . rw[if_pos u] at d;have r:aP s.data.toList=gd 5:=by have:=g.o;rw[if_pos u] at this;exact this
   clear g u H;go_enter func235,ntmps235;go_wp2_with fail;refine(d _).mono ?_;rintro e i ⟨rfl,n,b⟩;have f:oL w i:=by rw[b];exact(oL.j w _).f n
   clear b d;go_wp2_with fail;refine(um ⟨#[]⟩ i (by decide)).mono ?_;rintro e L ⟨rfl,a⟩;have c:=f.a a;have j:=c.b;have l:=c.c;have N:=c.d;have S:=c.e
   clear f a;go_wp2;refine aR (v:=.tuple #[.agg #[V ⟨#[]⟩,V ⟨#[]⟩],I J 5]) (by simp[results,results235,go_sem,j,l]) rfl ⟨by rw[r];rfl,?_⟩;exact(c.below.setCell (ak _) _).setCell (ak _) _
 . rw[if_neg u] at d;have hk:=DE 58 s.data.toList;rw[H] at hk;have p:=g.o;rw[if_neg u] at p;have hlt:bg 58 s.data.toList<s.size:=by omega
   clear g u H hk;generalize bg 58 s.data.toList=k at d p hlt;have e1:(s.extract 0 k).data.toList=s.data.toList.take k:=by rw[Lib.extract_data];simp
   have e2:=Lib.extract_to_end s (k+1);rw[<-e1,<-e2] at p;have z1:(s.extract 0 k).size=k:=by simp;omega
   have z2:(s.extract (k+1) s.size).size<=2000:=by simp;omega
   have t:=fun W=>yY (s.extract 0 k) W (by rw[z1];unfold maxLen;omega);have m:=aa (fun W=>um (s.extract (k+1) s.size) W (ce z2 (by decide)));have yS:=fun W=>pr (s.extract 0 k) W (by omega);have x:(⟨(Lib.trimS (s.extract (k+1) s.size).data.toList aX).toArray⟩:ag).size<=maxLen:=by
    have p:=xb (s.extract (k+1) s.size).data.toList;rw[ep] at p;show(Lib.trimS _ aX).toArray.size<=maxLen;rw[cN];unfold maxLen;omega
   have q:=aa (fun W=>rH ⟨(Lib.trimS (s.extract (k+1) s.size).data.toList aX).toArray⟩ W x);clear e1 e2 z2 x;generalize s.extract (k+1) s.size=rest at d m q p;have y:(⟨(Lib.trimS rest.data.toList aX).toArray⟩:ag).data.toList=Lib.trimS rest.data.toList aX:=rfl;rw[y] at q;generalize s.extract 0 k=T at d t yS p z1;have g:=aa p;generalize Lib.trimS rest.data.toList aX=tv at m q g;cases z:cT T.data.toList
   . rw[z] at t;have r:aP s.data.toList=gd 6:=by have:=g.o;rw[if_pos z] at this;exact this
     go_enter func235,ntmps235;go_wp2_with fail;refine(d _).mono ?_;rintro e i ⟨rfl,n,b⟩;have f:oL w i:=by rw[b];exact(oL.j w _).f n
     clear b d;go_wp2_with fail;refine(m.o _).mono ?_;rintro e L ⟨rfl,a⟩;have c:=f.a a;have j:=c.b;have l:=c.c;have N:=c.d;have S:=c.e
     clear f a m;go_wp2_with fail;refine(t _).mono ?_;rintro e w3 ⟨rfl,b⟩;subst b;go_wp2;refine aR (v:=.tuple #[.agg #[V ⟨#[]⟩,V ⟨#[]⟩],I J 6]) (by simp[results,results235,go_sem,j,l]) rfl ⟨by rw[r];rfl,?_⟩;exact(c.below.setCell (ak _) _).setCell (ak _) _
   . rw[z] at t;have h6:=g.o;rw[if_neg (by rw[z];simp)] at h6;clear g z;by_cases B:40<k
     . have r:aP s.data.toList=gd 4:=by have:=h6;rw[if_pos B] at this;exact this
       have t40:decide ((T.size:Int) > 40)=true:=by rw[bS];omega
       clear  q yS;go_enter func235,ntmps235;go_wp2_with fail;refine(d _).mono ?_;rintro e i ⟨rfl,n,b⟩;have f:oL w i:=by rw[b];exact(oL.j w _).f n
       clear b d;go_wp2_with fail;refine(m.o _).mono ?_;rintro e L ⟨rfl,a⟩;have c:=f.a a;have j:=c.b;have l:=c.c;have N:=c.d;have S:=c.e
       go_wp2_with fail;refine(t _).mono ?_;rintro e w3 ⟨rfl,b⟩;subst b;go_wp2;refine aR (v:=.tuple #[.agg #[V ⟨#[]⟩,V ⟨#[]⟩],I J 4]) (by simp[results,results235,go_sem,j,l]) rfl ⟨by rw[r];rfl,?_⟩;exact(c.below.setCell (ak _) _).setCell (ak _) _
     . have h4:=h6;rw[if_neg B] at h4;have t40:decide ((T.size:Int) > 40)=F:=by rw[cz];omega
       cases C:cF tv
       . rw[C] at q;have r:aP s.data.toList=gd 3:=by have:=h4;rw[if_pos C] at this;exact this
         go_enter func235,ntmps235;go_wp2_with fail;refine(d _).mono ?_;rintro e i ⟨rfl,n,b⟩;have f:oL w i:=by rw[b];exact(oL.j w _).f n
         clear b d;go_wp2_with fail;refine(m.o _).mono ?_;rintro e L ⟨rfl,a⟩;have c:=f.a a;have j:=c.b;have l:=c.c;have N:=c.d;have S:=c.e
         clear f a m;go_wp2_with fail;refine(t _).mono ?_;rintro e w3 ⟨rfl,b⟩;subst b;go_wp2_with fail;refine(q.o _).mono ?_;rintro e w4 ⟨rfl,b⟩;subst b;go_wp2;refine aR (v:=.tuple #[.agg #[V ⟨#[]⟩,V ⟨#[]⟩],I J 3]) (by simp[results,results235,go_sem,j,l]) rfl ⟨by rw[r];rfl,?_⟩;exact(c.below.setCell (ak _) _).setCell (ak _) _
       . rw[C] at q;have h3:=h4;rw[if_neg (by rw[C];simp)] at h3;clear  C ;go_enter func235,ntmps235;go_wp2_with fail;refine(d _).mono ?_;rintro e i ⟨rfl,n,b⟩;have f:oL w i:=by rw[b];exact(oL.j w _).f n
         clear b d;go_wp2_with fail;refine(m.o _).mono ?_;rintro e L ⟨rfl,a⟩;have c:=f.a a;clear f a m;go_wp2_with fail;refine(t _).mono ?_;rintro e w3 ⟨rfl,b⟩;subst b;go_wp2_with fail;refine(q.o _).mono ?_;rintro e w4 ⟨rfl,b⟩;subst b;go_wp2_with fail;refine(yS _).mono ?_;rintro e w5 ⟨rfl,D⟩;have G:=c.a D;have j:=G.b;have l:=G.c;have N:=G.d;have S:=G.e
         clear c D;go_wp2;refine aR (v:=.tuple #[.agg #[V T,V ⟨tv.toArray⟩],I J 0]) (by simp[results,results235,go_sem,j,l]) rfl ⟨by rw[h3];rfl,?_⟩;exact(G.below.setCell (ak _) _).setCell (ak _) _
structure oK (w:X)(n v:ag)(W:X):Prop where
 b:W.cell? ⟨w.heap.size,0,U⟩=M (V n)
 a:W.cell? ⟨w.heap.size,1,U⟩=M (V v)
 below:Below w.heap.size w W
 c:w.heap.size<W.heap.size
theorem oK.d (w:X)(n v:ag)(t:Nat):oK w n v (w.alloc (.cells #[V n,V v] t)) :=
 ⟨World.cell?_alloc_mark w _ _ _ 0,World.cell?_alloc_mark w _ _ _ 1,(aq _ _).alloc (ak _) _,by simp⟩
theorem oK.e {w W W':X}{n v:ag}(h:oK w n v W)(a:Below W.heap.size W W'):oK w n v W' :=
 ⟨(a.cell (p:=⟨w.heap.size,0,U⟩) h.c).trans h.b,(a.cell (p:=⟨w.heap.size,1,U⟩) h.c).trans h.a,ar h.below a,ml h.c a.size⟩
theorem oK.f {w W:X}{n v:ag}(h:oK w n v W):oK w n v W.drew:=h.e (bA _ _)
theorem wQ (l:aC)(a:ag)(ao:ai)(cap n:Nat)(w:X)(hl:bx w ao cap n (aI l))(hn:l.length=n)(hN:n<=1000000)(hs:∀p∈l,p.1.size<=2000∧p.2.size<=2000)(hnm:a.size<=2000):
 Calls prog 217 #[Z ao n cap,V a] w fun e w'=>∃gQ b,e=Y (Z gQ (aE a l).length b)∧aG w' w.heap.size 9 1 gQ b (aE a l).length (fH (aE a l))∧Below w.heap.size w w':=by
 subst hn;obtain⟨i0,G,H,L,N⟩:=info_parts zZ;have Hi:=G;have kT:=aa H;have kL:=aa L;have kU:=aa N
 have m:=rN a w (by unfold maxLen;omega);have HX:∀p:ag,((⟨(aU p.data.toList).toArray⟩:ag).toList==(⟨(aU a.data.toList).toArray⟩:ag).toList)=decide (aU p.data.toList=aU a.data.toList):=by
  intro p;rw[Lib.toList_data,Lib.toList_data,ik];simp
 generalize (⟨(aU a.data.toList).toArray⟩:ag)=sn at m HX;go_enter func217,ntmps217;go_wp2_with fail;refine m.mono ?_;rintro e w0 ⟨rfl,S⟩;go_wp2;go_loopw [6,13] (fun v t wr=>∃(k:Nat) (gQ:ai) (b:Nat),k<=l.length∧t=I J k∧v=Z gQ (aE a (l.take k)).length b∧aG wr w.heap.size 9 1 gQ b (aE a (l.take k)).length (fH (aE a (l.take k)))∧Below w.heap.size w wr) (fun _ t _=>l.length-(intOf t).toNat)
 case atStart=>exact⟨0,U,0,ax _,rfl,rfl,aG.f _ _ _ _,S⟩
 case round =>
  obtain⟨k,gQ,b,hk,rfl,rfl,hO,hB⟩:=hrel;have B:=hO;have r:=aa hB
  have T:=oT a (l.take k);have hvk:(l.take k).length<=k:=wu _ _;by_cases c:k<l.length
  . have hpl:0<(aI l).length:=by rw[rI];omega
    obtain⟨bb,oo,rfl,s⟩:=hl.e hpl;have x:=s _ _ (mU l k c).1;have h2:=s _ _ (mU l k c).2;rw[<-fC] at h2;have hc0:=(r.o.cell (bI w _ x)).trans x;have hc1:=(r.o.cell (bI w _ h2)).trans h2;have HT:l.take (k+1)=l.take k++[l[k]]:=go c;have hp1:=hs l[k] (dG c);have g:=fun W=>rN l[k].1 W (by unfold maxLen;omega);have yS:=fun W=>pr l[k].2 W (by have:=hp1.2;omega);have hlt':(k:Int)<l.length:=by omega
    have C:=Dz a (l.take k) l[k];rw[<-HT] at C;generalize l[k]=p at *;have zT:=HX p.1;generalize (⟨(aU p.1.data.toList).toArray⟩:ag)=sp at g zT;generalize aE a (l.take k)=vs at B C T;by_cases d:aU p.1.data.toList=aU a.data.toList
    . have hx:=zT;rw[aV d] at hx;have D:aE a (l.take (k+1))=vs++[p.2]:=by have:=C;rw[if_pos d] at this;exact this
      go_wp2_with fail;refine(g _).mono ?_;rintro e w1 ⟨rfl,i⟩;have j:=(oK.d wr p.1 p.2 _).e i;have B1:=ar r.o j.below;have O1:=B.r j.below;have c1:=j.a;go_wp2_with fail;refine(yS _).mono ?_;rintro e w2 ⟨rfl,z⟩;have f:=ar B1 z;have FD:=O1.r z;go_wp2_with (at_builtin;refine fE rfl (.tmp 22) (.tmp 26) 155 rfl w.heap.size 9 i0 (V ⟨#[]⟩) 1 16 underlying155 Hi kT.o kL.o kU.o rfl (by decide) rfl (FD.q _) rfl (bx.d _ _ 1 _ _) rfl (fun u hu=>by simp at hu;subst hu;rfl) (by omega) (by omega) (by have:=f.size;simp;omega) ?_;intro lu iq w3 hO3 hG3 _)
      go_roundw
      case rel =>
       have e1:=D;refine⟨k+1,lu,iq,by omega,by go_num,by rw[e1,aF];rfl,?_,?_⟩
       . rw[e1,aF,Cv];exact hO3
       . exact(f.alloc f.size _).grown hG3 (by have:=f.size;simp;omega) (fun q e=>by
          cases gQ with
          | none=>simp[au] at e
          | some y=>simp only[au,iV] at e;have:=(FD.d y rfl).1;omega)
      case measure=>simp[intOf];omega
    . have hx:=zT;rw[aW d] at hx;have D:aE a (l.take (k+1))=vs:=by have:=C;rw[if_neg d] at this;exact this
      go_wp2_with fail;refine(g _).mono ?_;rintro e w1 ⟨rfl,i⟩;have j:=(oK.d wr p.1 p.2 _).e i;have B1:=ar r.o j.below;have O1:=B.r j.below;go_wp2;go_roundw
      case rel=>exact⟨k+1,gQ,b,by omega,by go_num,by rw[D],by rw[D];exact O1,B1⟩
      case measure=>simp[intOf];omega
  . obtain rfl:k=l.length:=by omega
    go_wp2;go_ret;have e:l.take l.length=l:=fD;have x:=B;rw[e] at x;exact⟨gQ,b,by rw[e];rfl,x,r.o⟩
theorem wR (l:aC)(a:ag)(ao:ai)(cap n:Nat)(w:X)(y:bx w ao cap n (aI l))(r:l.length=n)(z:n<=1000000)(B:∀p∈l,p.1.size<=2000∧p.2.size<=2000)(j:a.size<=2000):
 Calls prog 166 #[Z ao n cap,V a] w fun e w'=>e=Y (jX (fw (aE a l)))∧Below w.heap.size w w':=by
 have g:=wQ l a ao cap n w y r z B j;have b:=oT a l;rw[r] at b;generalize aE a l=k at g b;rcases k with _ | ⟨v,_ | ⟨i,t⟩⟩
 . go_enter func166,ntmps166;go_wp2_with fail;refine g.mono ?_;rintro e s ⟨u,x,rfl,c,d⟩;have m:=c;have f:=aa d
   go_wp2;go_ret2;exact⟨mW (p:=([],10)) rfl rfl,f.o⟩
 . go_enter func166,ntmps166;go_wp2_with fail;refine g.mono ?_;rintro e s ⟨u,x,rfl,c,d⟩;have m:=c;have f:=aa d
   obtain⟨G,H,rfl,q⟩:=m.a.e (by simp[fH]);have C:=q 0 (V v) rfl;rw[lC] at C;go_wp2;go_ret2;exact⟨mW (p:=(v.data.toList,0)) rfl rfl,f.o⟩
 . have N:(((v::i::t).length:Int)==0)=F:=by rw[aO,bO,bO];omega
   have S:(((v::i::t).length:Int)==1)=F:=by rw[aO,bO,bO];omega
   have D:fw (v::i::t)=([],9):=rfl;generalize v::i::t=k at *;generalize k.length=L at *;go_enter func166,ntmps166;go_wp2_with fail;refine g.mono ?_;rintro e s ⟨u,x,rfl,c,d⟩;have m:=c;have f:=aa d
   go_wp2;go_ret2;exact⟨mW (p:=([],9)) D rfl,f.o⟩
theorem Fz (n v:ag)(w:X)(hn:n.size<=100000)(hv:v.size<=100000):
 Calls prog 189 #[.agg #[V n,V v]] w fun e w'=>e=Y (jX (bz n.data.toList v.data.toList))∧Below w.heap.size w w':=by
 have i:=fun W=>yY n W (by unfold maxLen;omega);have l:=fun W=>rH v W (by unfold maxLen;omega);have m:=aa (fun W=>um v W (by omega));have x:n.data.toList.length=n.size:=by rw[cy];rfl
 have y:v.data.toList.length=v.size:=by rw[cy];rfl
 have z:bz n.data.toList v.data.toList=if cT n.data.toList=F then ([],6) else if 40<n.size∨200<n.size+2+v.size then ([],4) else if cF v.data.toList=F∨Lib.trimS v.data.toList aX≠v.data.toList then ([],3) else (n.data.toList++[58,32]++v.data.toList,0):=by
  unfold bz;rw[x,y]
 have B:=aa z;have j:(n++⟨#[58,32]⟩++v).size=n.size+2+v.size:=by simp[ByteArray.size_append];rfl
 have C:Hid (n++⟨#[58,32]⟩++v=⟨(n.data.toList++[58,32]++v.data.toList).toArray⟩):=pB (by rw[my,my]);cases p:cT n.data.toList
 . rw[p] at i;have f:bz n.data.toList v.data.toList=([],6):=by have:=B.o;rw[if_pos p] at this;exact this
   clear B p l m C;go_enter func189,ntmps189;go_wp2_with fail;refine(i _).mono ?_;rintro e g ⟨rfl,a⟩;have k:=QW ⟨0,a⟩;clear a;go_wp2;go_ret2;exact⟨mW f rfl,k⟩
 . rw[p] at i;have D:=B.o;rw[if_neg (by rw[p];simp)] at D;by_cases q:40<n.size∨200<n.size+2+v.size
   . have f:bz n.data.toList v.data.toList=([],4):=by have:=D;rw[if_pos q] at this;exact this
     by_cases r:40<n.size
     . have N:decide ((n.size:Int) > 40)=true:=by rw[bS];omega
       go_enter func189,ntmps189;go_wp2_with fail;refine(i _).mono ?_;rintro e g ⟨rfl,a⟩;have b:oK w n v g:=by rw[a];exact oK.d w n v _
       clear a;have u:=b.b;go_wp2;go_ret2;exact⟨mW f rfl,b.below⟩
     . have N:decide ((n.size:Int) > 40)=F:=by rw[cz];omega
       have t2:decide (((n++⟨#[58,32]⟩++v).size:Int) > 200)=true:=by rw[bS,j];omega
       clear j;go_enter func189,ntmps189;go_wp2_with fail;refine(i _).mono ?_;rintro e g ⟨rfl,a⟩;have b:oK w n v g:=by rw[a];exact oK.d w n v _
       clear a;have u:=b.b;generalize n++⟨#[58,32]⟩++v=G at *;go_wp2;go_ret2;exact⟨mW f rfl,b.below⟩
   . have r:=D;rw[if_neg q] at r;have N:decide ((n.size:Int) > 40)=F:=by rw[cz];omega
     have t2:decide (((n++⟨#[58,32]⟩++v).size:Int) > 200)=F:=by rw[cz,j];omega
     cases c:cF v.data.toList
     . rw[c] at l;have f:bz n.data.toList v.data.toList=([],3):=by have:=r;rw[if_pos (Or.inl c)] at this;exact this
       go_enter func189,ntmps189;go_wp2_with fail;refine(i _).mono ?_;rintro e g ⟨rfl,a⟩;have b:oK w n v g:=by rw[a];exact oK.d w n v _
       clear a;have u:=b.b;have S:=b.a;generalize n++⟨#[58,32]⟩++v=G at *;go_wp2_with fail;refine(l _).mono ?_;rintro e T ⟨rfl,a⟩;subst a;go_wp2;go_ret2;exact⟨mW f rfl,b.below⟩
     . rw[c] at l;by_cases d:Lib.trimS v.data.toList aX=v.data.toList
       . have f:Hid (bz n.data.toList v.data.toList=(n.data.toList++[58,32]++v.data.toList,0)):=by have:=r;rw[if_neg (by rw[c,d];simp)] at this;exact this
         rw[d] at m;have s:(⟨v.data.toList.toArray⟩:ag)=v:=rfl;rw[s] at m;clear  c d s;go_enter func189,ntmps189;go_wp2_with fail;refine(i _).mono ?_;rintro e g ⟨rfl,a⟩;have b:Hid (oK w n v g):=by rw[a];exact oK.d w n v _
         clear a;have u:=b.out.b;have S:=b.out.a;generalize n++⟨#[58,32]⟩++v=G at *;go_wp2_with fail;refine(l _).mono ?_;rintro e T ⟨rfl,a⟩;subst a;go_wp2;go_region_held3 (fun w'=>w'.cell? ⟨w.heap.size,1,U⟩=M (V v)) (go_keep) (first | (go_at_call 237;refine(m.o _).mono ?_;rintro e w5 ⟨rfl,k⟩;have t:=aa (b.out.f.e k);have H:=t.out.a;clear k))
         all_goals
          go_wp2;go_ret2;exact⟨mW f.o (by unfold jX;rw[<-C.o];rfl),t.out.below⟩
       . have f:bz n.data.toList v.data.toList=([],3):=by have:=r;rw[if_pos (Or.inr d)] at this;exact this
         have L:((⟨(Lib.trimS v.data.toList aX).toArray⟩:ag).toList==v.toList)=F:=by
          rw[Lib.toList_data,Lib.toList_data,aO];simpa using d
         clear  c d C;generalize (⟨(Lib.trimS v.data.toList aX).toArray⟩:ag)=tv at m L;go_enter func189,ntmps189;go_wp2_with fail;refine(i _).mono ?_;rintro e g ⟨rfl,a⟩;have b:oK w n v g:=by rw[a];exact oK.d w n v _
         clear a;have u:=b.b;have S:=b.a;generalize n++⟨#[58,32]⟩++v=G at *;go_wp2_with fail;refine(l _).mono ?_;rintro e T ⟨rfl,a⟩;subst a;go_wp2;go_region_held3 (fun w'=>w'.cell? ⟨w.heap.size,1,U⟩=M (V v)) (go_keep) (first | (go_at_call 237;refine(m.o _).mono ?_;rintro e w5 ⟨rfl,k⟩;have t:=aa (b.f.e k);have H:=t.out.a;clear k))
         all_goals
          go_wp2;go_ret2;exact⟨mW f rfl,t.out.below⟩
def vu:ag:=⟨#[72,111,115,116]⟩
def vx:ag:=⟨#[67,111,110,116,101,110,116,45,76,101,110,103,116,104]⟩
def vy:ag:=⟨#[84,114,97,110,115,102,101,114,45,69,110,99,111,100,105,110,103]⟩
theorem EO (l:aC):aE vu l=aE eQ l:=xr _ _ l (by decide)
theorem EP (l:aC):aE vx l=aE fg l:=xr _ _ l (by decide)
theorem EQ (l:aC):aE vy l=aE fh l:=xr _ _ l (by decide)
theorem zm (l:aC)(a:ag)(ao:ai)(cap n:Nat)(w:X)(f:bx w ao cap n (aI l))(g:l.length=n)(i:n<=1000000)(j:∀p∈l,p.1.size<=2000∧p.2.size<=2000)(b:a.size<=2000):
 Calls prog 233 #[Z ao n cap,V a] w fun e w'=>e=Y (I J ((aE a l).length:Int))∧Below w.heap.size w w':=by
 have c:=wQ l a ao cap n w f g i j b;generalize (aE a l)=q at c ⊢;go_enter func233,ntmps233;go_wp2_with (go_at_call 217;refine c.mono ?_;rintro e r ⟨s,t,rfl,k,d⟩;have m:=aa d;clear k d)
 go_ret;exact⟨rfl,m.o⟩
theorem OR (gh mi:Nat)(l:aC)(fo:ai)(gG n:Nat)(w:X)(c2:w.cell? ⟨gh,2,U⟩=M (I J (mi:Int)))(c3:w.cell? ⟨gh,3,U⟩=M (Z fo n gG))(hl:bx w fo gG n (aI l))(hn:l.length=n)(hN:n<=16)(hs:∀p∈l,p.1.size<=2000∧p.2.size<=2000):
 Calls prog 234 #[.pointer (M ⟨gh,0,U⟩)] w fun e w'=>e=Y (op (pb mi (aZ (aE fg l)) (aZ (aE fh l))))∧Below w.heap.size w w':=by
 have C:=wQ l vy fo gG n w hl hn (by omega) hs (by decide);have D:=fun W (hW:Below w.heap.size w W)=>wQ l vx fo gG n W (hl.a hW) hn (by omega) hs (by decide);rw[EQ] at C;simp only[EP] at D;have B:=fun W (hW:Below w.heap.size w W)=>And.intro ((hW.cell (bI w _ c2)).trans c2) ((hW.cell (bI w _ c3)).trans c3);have hm1:∀v∈aE fh l,v.size<=2000:=fun v hv=>by
  obtain⟨p,hp,rfl⟩:=uM hv;exact(hs p hp).2
 have hm2:∀v∈aE fg l,v.size<=2000:=fun v hv=>by
  obtain⟨p,hp,rfl⟩:=uM hv;exact(hs p hp).2
 have hv1:=oT fh l;have hv2:=oT fg l;generalize aE fh l=i at C hm1 hv1 ⊢;generalize aE fg l=m at D hm2 hv2 ⊢;have Z4:=hm1;have HM2:=aa hm2
 have hcl:i.length<=16:=by omega
 have hvl:m.length<=16:=by omega
 unfold vy at C;simp only[vx] at D;have T:pb mi (aZ m) (aZ i)=if aZ i≠[] then (if aZ m≠[]∨mi=0 then .inl 12 else if (aZ i).length≠1∨aU ((aZ i).headD [])≠pZ then .inl 11 else .inr (-1)) else qa (aZ m):=rfl
 generalize pb mi (aZ m) (aZ i)=aah at T ⊢;have L:∀l:List ag,(aZ l).length=l.length:=fun l=>by simp[aZ]
 have N:∀l:List ag,aZ l≠[]<->0<l.length:=fun l=>by rw[<-L l];exact List.length_pos_iff.symm
 by_cases hc0:i.length=0
 . have t0:((i.length:Int)==0)=true:=cM.2 (by omega);have HS:=fun ao cap W h=>KU m ao cap W h (by omega) HM2.o;have t:aah=qa (aZ m):=by rw[T,if_neg (by rw[N];omega)]
   subst t;generalize qa (aZ m)=aah at HS ⊢;generalize i.length=nc at *;go_enter func234,ntmps234;go_wp2_with fail;refine C.mono ?_;rintro e q ⟨AV,oU,rfl,y,a⟩;have G:=y;have f:=aa a
   have u:=(B q a).2;go_wp2_with fail;refine(D q f.o).mono ?_;rintro e z ⟨jB,s,rfl,g,b⟩;have MU:=g.a;have j:=aa (G.a.a b);have d:=aa (ar f.o b)
   have H:=(B z d.o).1;cases aah with
   | inl c =>
     unfold op at HS;go_wp2_with fail;refine(HS _ _ _ MU).mono ?_;rintro e w3 ⟨rfl,hw⟩;subst hw;go_wp2;go_ret2;exact⟨rfl,d.o⟩
   | inr k =>
     unfold op at HS;go_wp2_with fail;refine(HS _ _ _ MU).mono ?_;rintro e w3 ⟨rfl,hw⟩;subst hw;go_wp2;go_ret2;exact⟨rfl,d.o⟩
 . have t0:((i.length:Int)==0)=F:=aO.2 (by omega);have t:=T;rw[if_pos ((N i).2 (by omega))] at t;by_cases hv0:0<m.length
   . have tv:decide ((m.length:Int) > 0)=true:=aV (by omega);rw[if_pos (Or.inl ((N m).2 hv0))] at t;subst t;go_enter func234,ntmps234;go_wp2_with fail;refine C.mono ?_;rintro e q ⟨AV,oU,rfl,y,a⟩;have G:=y;have f:=aa a
     have u:=(B q a).2;go_wp2_with fail;refine(D q f.o).mono ?_;rintro e z ⟨jB,s,rfl,g,b⟩;have MU:=g.a;have j:=aa (G.a.a b);have d:=aa (ar f.o b)
     have H:=(B z d.o).1;go_wp2;go_ret2;exact⟨rfl,d.o⟩
   . have tv:decide ((m.length:Int) > 0)=F:=aW (by omega);by_cases hm0:mi=0
     . have tm:((mi:Int)==0)=true:=cM.2 (by omega);rw[if_pos (Or.inr hm0)] at t;subst t;generalize m.length=nv at *;go_enter func234,ntmps234;go_wp2_with fail;refine C.mono ?_;rintro e q ⟨AV,oU,rfl,y,a⟩;have G:=y;have f:=aa a
       have u:=(B q a).2;go_wp2_with fail;refine(D q f.o).mono ?_;rintro e z ⟨jB,s,rfl,g,b⟩;have MU:=g.a;have j:=aa (G.a.a b);have d:=aa (ar f.o b)
       have H:=(B z d.o).1;go_wp2;go_ret2;exact⟨rfl,d.o⟩
     . have tm:((mi:Int)==0)=F:=aO.2 (by omega);rw[if_neg (fun e=>by rcases e with e | e;exact hv0 ((N m).1 e);exact hm0 e)] at t;by_cases hc1:1<i.length
       . have t1:decide ((i.length:Int) > 1)=true:=aV (by omega);rw[if_pos (Or.inl (by rw[L];omega))] at t;subst t;generalize m.length=nv at *;go_enter func234,ntmps234;go_wp2_with fail;refine C.mono ?_;rintro e q ⟨AV,oU,rfl,y,a⟩;have G:=y;have f:=aa a
         have u:=(B q a).2;go_wp2_with fail;refine(D q f.o).mono ?_;rintro e z ⟨jB,s,rfl,g,b⟩;have MU:=g.a;have j:=aa (G.a.a b);have d:=aa (ar f.o b)
         have H:=(B z d.o).1;go_wp2;go_ret2;exact⟨rfl,d.o⟩
       . have t1:decide ((i.length:Int) > 1)=F:=aW (by omega);have afp:0<i.length:=by omega
         have hhd:(aZ i).headD []=i[0].data.toList:=by
          cases i with
          | nil=>simp at afp
          | cons v r=>rfl
         have HS0:=uz i 0 afp;have hsz:=Z4 i[0] (dG afp);rw[hhd,L] at t;generalize i[0]=x at *;have sD:=fun W=>rN x W (by unfold maxLen;omega);have hcp:(aZ i).length=1:=by rw[L];omega
         by_cases S:aU x.data.toList=pZ
         . rw[if_neg (fun e=>by rcases e with e | e;exact e (by omega);exact e S)] at t;subst t;rw[S] at sD;generalize m.length=nv at *;go_enter func234,ntmps234;go_wp2_with fail;refine C.mono ?_;rintro e q ⟨AV,oU,rfl,y,a⟩;have G:=y;have f:=aa a
           have u:=(B q a).2;clear y a;go_wp2_with fail;refine(D q f.o).mono ?_;rintro e z ⟨jB,s,rfl,g,b⟩;have MU:=aa g.a;have j:=aa (G.a.a b);have d:=aa (ar f.o b)
           have H:=(B z d.o).1;clear g b u c3 C D;obtain⟨bb,oo,rfl,hcc⟩:=j.o.e (by rw[yU];omega);have x0:z.cell? ⟨bb,oo,U⟩=M (V x):=by have:=hcc 0 _ HS0;simpa using this
           have hcap:=j.o.1;go_wp2_with fail;refine(sD _).mono ?_;rintro e w3 ⟨rfl,hb3⟩;have HB3:=ar d.o hb3;go_wp2;go_ret2;exact⟨rfl,HB3⟩
         . rw[if_pos (Or.inr S)] at t;subst t;have hne:((⟨(aU x.data.toList).toArray⟩:ag).toList==[99,104,117,110,107,101,100])=F:=by
            rw[Lib.toList_data,aO];exact S
           generalize (⟨(aU x.data.toList).toArray⟩:ag)=lx at sD hne;generalize m.length=nv at *;go_enter func234,ntmps234;go_wp2_with fail;refine C.mono ?_;rintro e q ⟨AV,oU,rfl,y,a⟩;have G:=y;have f:=aa a
           have u:=(B q a).2;clear y a;go_wp2_with fail;refine(D q f.o).mono ?_;rintro e z ⟨jB,s,rfl,g,b⟩;have MU:=aa g.a;have j:=aa (G.a.a b);have d:=aa (ar f.o b)
           have H:=(B z d.o).1;clear g b u c3 C D;obtain⟨bb,oo,rfl,hcc⟩:=j.o.e (by rw[yU];omega);have x0:z.cell? ⟨bb,oo,U⟩=M (V x):=by have:=hcc 0 _ HS0;simpa using this
           have hcap:=j.o.1;go_wp2_with fail;refine(sD _).mono ?_;rintro e w3 ⟨rfl,hb3⟩;have HB3:=ar d.o hb3;go_wp2;go_ret2;exact⟨rfl,HB3⟩
