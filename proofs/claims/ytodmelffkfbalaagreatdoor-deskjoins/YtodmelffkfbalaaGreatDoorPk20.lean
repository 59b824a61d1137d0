import Derived.Deep.RegionHeld3
import Derived.Test.YtodmelffkfbalaaGreatDoorPk16
import Derived.Test.YtodmelffkfbalaaGreatDoorRqNum
open Go.Value renaming int->I,string->V,slice->Z
open Go.IntKind renaming i64->J
open Go.Ending renaming returned->Y
open Option renaming none->U,some->M
open Bool renaming false->F
open Go renaming World->X
set_option maxHeartbeats 2000000
set_option maxRecDepth 100000
open Go.Proofs.Tryz
namespace Go.Proofs.YtodmelffkfbalaaGreatDoor
open Go.RowKit
structure oq (w W:X):Prop where
 b:W.cell? ⟨w.heap.size,0,U⟩=M (V ⟨#[]⟩)
 c:W.cell? ⟨w.heap.size,1,U⟩=M (V ⟨#[]⟩)
 d:W.frozen? ⟨w.heap.size,0,U⟩=F
 e:W.frozen? ⟨w.heap.size,1,U⟩=F
 below:Below w.heap.size w W
 g:w.heap.size<W.heap.size
theorem oq.j (w:X)(t:Nat):oq w (w.alloc (.cells #[V ⟨#[]⟩,V ⟨#[]⟩] t)) :=
 ⟨World.cell?_alloc_mark w _ _ _ 0,World.cell?_alloc_mark w _ _ _ 1,World.frozen?_alloc_mark w _ _ _ _ 0,World.frozen?_alloc_mark w _ _ _ _ 1,(ar _ _).alloc (ak _) _,by simp⟩
theorem oq.a {w W W':X}(h:oq w W)(a:Below W.heap.size W W'):oq w W' :=
 ⟨(a.cell (p:=⟨w.heap.size,0,U⟩) h.g).trans h.b,(a.cell (p:=⟨w.heap.size,1,U⟩) h.g).trans h.c,(a.frozen (p:=⟨w.heap.size,0,U⟩) h.g).trans h.d,(a.frozen (p:=⟨w.heap.size,1,U⟩) h.g).trans h.e,au h.below a,mC h.g a.size⟩
theorem oq.f {w W:X}(h:oq w W)(n:Nat):oq w (W.drewN n):=h.a (iZ ⟨n,rfl⟩)
theorem yq (s:ae)(w:X)(hs:s.size<=2000):
 Calls prog 279 #[V s] w fun e w'=>e=Y (tV (aY s.data.toList))∧Below w.heap.size w w':=by
 have d:=fun W=>rv s 58 W (by unfold maxLen;omega);have H:s.data.toList.length=s.size:=by rw[cJ];rfl
 have g:=aa (Ji s.data.toList);rw[H] at g;unfold jV at d;by_cases u:aV 58 s.data.toList=s.size
 . rw[if_pos u] at d;have r:aY s.data.toList=jg 5:=by have:=g.o;rw[if_pos u] at this;exact this
   clear g u H;go_enter func279,ntmps279;go_wp2_with fail;refine(d _).mono ?_;rintro e i ⟨rfl,n,b⟩;have f:oq w i:=by rw[b];exact(oq.j w _).f n
   clear b d;go_wp2_with fail;refine(ty ⟨#[]⟩ i (by decide)).mono ?_;rintro e L ⟨rfl,a⟩;have c:=f.a a;have j:=c.b;have l:=c.c;have N:=c.d;have S:=c.e
   clear f a;go_wp2;refine aR (v:=.tuple #[.agg #[V ⟨#[]⟩,V ⟨#[]⟩],I J 5]) (by simp[results,results279,go_sem,j,l]) rfl ⟨by rw[r];rfl,?_⟩;exact(c.below.setCell (ak _) _).setCell (ak _) _
 . rw[if_neg u] at d;have hk:=Jj 58 s.data.toList;rw[H] at hk;have p:=g.o;rw[if_neg u] at p;have hlt:aV 58 s.data.toList<s.size:=by omega
   clear g u H hk;generalize aV 58 s.data.toList=k at d p hlt;have e1:(s.extract 0 k).data.toList=s.data.toList.take k:=by rw[Lib.extract_data];simp
   have e2:=Lib.extract_to_end s (k+1);rw[<-e1,<-e2] at p;have z1:(s.extract 0 k).size=k:=by simp;omega
   have z2:(s.extract (k+1) s.size).size<=2000:=by simp;omega
   have t:=fun W=>yi (s.extract 0 k) W (by rw[z1];unfold maxLen;omega);have m:=aa (fun W=>ty (s.extract (k+1) s.size) W (cq z2 (by decide)));have xC:=fun W=>oS (s.extract 0 k) W (by omega);have x:(⟨(Lib.trimS (s.extract (k+1) s.size).data.toList cf).toArray⟩:ae).size<=maxLen:=by
    have p:=yB (s.extract (k+1) s.size).data.toList;rw[cH] at p;show(Lib.trimS _ cf).toArray.size<=maxLen;rw[cz];unfold maxLen;omega
   have q:=aa (fun W=>rf ⟨(Lib.trimS (s.extract (k+1) s.size).data.toList cf).toArray⟩ W x);clear e1 e2 z2 x;generalize s.extract (k+1) s.size=rest at d m q p;have y:(⟨(Lib.trimS rest.data.toList cf).toArray⟩:ae).data.toList=Lib.trimS rest.data.toList cf:=rfl;rw[y] at q;generalize s.extract 0 k=T at d t xC p z1;have g:=aa p;generalize Lib.trimS rest.data.toList cf=tv at m q g;cases z:fj T.data.toList
   . rw[z] at t;have r:aY s.data.toList=jg 6:=by have:=g.o;rw[if_pos z] at this;exact this
     go_enter func279,ntmps279;go_wp2_with fail;refine(d _).mono ?_;rintro e i ⟨rfl,n,b⟩;have f:oq w i:=by rw[b];exact(oq.j w _).f n
     clear b d;go_wp2_with fail;refine(m.o _).mono ?_;rintro e L ⟨rfl,a⟩;have c:=f.a a;have j:=c.b;have l:=c.c;have N:=c.d;have S:=c.e
     clear f a m;go_wp2_with fail;refine(t _).mono ?_;rintro e w3 ⟨rfl,b⟩;subst b;go_wp2;refine aR (v:=.tuple #[.agg #[V ⟨#[]⟩,V ⟨#[]⟩],I J 6]) (by simp[results,results279,go_sem,j,l]) rfl ⟨by rw[r];rfl,?_⟩;exact(c.below.setCell (ak _) _).setCell (ak _) _
   . rw[z] at t;have h6:=g.o;rw[if_neg (by rw[z];simp)] at h6;clear g z;by_cases B:40<k
     . have r:aY s.data.toList=jg 4:=by have:=h6;rw[if_pos B] at this;exact this
       have t40:decide ((T.size:Int) > 40)=true:=by rw[bR];omega
       clear  q xC;go_enter func279,ntmps279;go_wp2_with fail;refine(d _).mono ?_;rintro e i ⟨rfl,n,b⟩;have f:oq w i:=by rw[b];exact(oq.j w _).f n
       clear b d;go_wp2_with fail;refine(m.o _).mono ?_;rintro e L ⟨rfl,a⟩;have c:=f.a a;have j:=c.b;have l:=c.c;have N:=c.d;have S:=c.e
       go_wp2_with fail;refine(t _).mono ?_;rintro e w3 ⟨rfl,b⟩;subst b;go_wp2;refine aR (v:=.tuple #[.agg #[V ⟨#[]⟩,V ⟨#[]⟩],I J 4]) (by simp[results,results279,go_sem,j,l]) rfl ⟨by rw[r];rfl,?_⟩;exact(c.below.setCell (ak _) _).setCell (ak _) _
     . have h4:=h6;rw[if_neg B] at h4;have t40:decide ((T.size:Int) > 40)=F:=by rw[cC];omega
       cases C:dO tv
       . rw[C] at q;have r:aY s.data.toList=jg 3:=by have:=h4;rw[if_pos C] at this;exact this
         go_enter func279,ntmps279;go_wp2_with fail;refine(d _).mono ?_;rintro e i ⟨rfl,n,b⟩;have f:oq w i:=by rw[b];exact(oq.j w _).f n
         clear b d;go_wp2_with fail;refine(m.o _).mono ?_;rintro e L ⟨rfl,a⟩;have c:=f.a a;have j:=c.b;have l:=c.c;have N:=c.d;have S:=c.e
         clear f a m;go_wp2_with fail;refine(t _).mono ?_;rintro e w3 ⟨rfl,b⟩;subst b;go_wp2_with fail;refine(q.o _).mono ?_;rintro e w4 ⟨rfl,b⟩;subst b;go_wp2;refine aR (v:=.tuple #[.agg #[V ⟨#[]⟩,V ⟨#[]⟩],I J 3]) (by simp[results,results279,go_sem,j,l]) rfl ⟨by rw[r];rfl,?_⟩;exact(c.below.setCell (ak _) _).setCell (ak _) _
       . rw[C] at q;have h3:=h4;rw[if_neg (by rw[C];simp)] at h3;clear  C ;go_enter func279,ntmps279;go_wp2_with fail;refine(d _).mono ?_;rintro e i ⟨rfl,n,b⟩;have f:oq w i:=by rw[b];exact(oq.j w _).f n
         clear b d;go_wp2_with fail;refine(m.o _).mono ?_;rintro e L ⟨rfl,a⟩;have c:=f.a a;clear f a m;go_wp2_with fail;refine(t _).mono ?_;rintro e w3 ⟨rfl,b⟩;subst b;go_wp2_with fail;refine(q.o _).mono ?_;rintro e w4 ⟨rfl,b⟩;subst b;go_wp2_with fail;refine(xC _).mono ?_;rintro e w5 ⟨rfl,D⟩;have G:=c.a D;have j:=G.b;have l:=G.c;have N:=G.d;have S:=G.e
         clear c D;go_wp2;refine aR (v:=.tuple #[.agg #[V T,V ⟨tv.toArray⟩],I J 0]) (by simp[results,results279,go_sem,j,l]) rfl ⟨by rw[h3];rfl,?_⟩;exact(G.below.setCell (ak _) _).setCell (ak _) _
structure ol (w:X)(n v:ae)(W:X):Prop where
 b:W.cell? ⟨w.heap.size,0,U⟩=M (V n)
 a:W.cell? ⟨w.heap.size,1,U⟩=M (V v)
 below:Below w.heap.size w W
 c:w.heap.size<W.heap.size
theorem ol.f (w:X)(n v:ae)(t:Nat):ol w n v (w.alloc (.cells #[V n,V v] t)) :=
 ⟨World.cell?_alloc_mark w _ _ _ 0,World.cell?_alloc_mark w _ _ _ 1,(ar _ _).alloc (ak _) _,by simp⟩
theorem ol.j {w W W':X}{n v:ae}(h:ol w n v W)(a:Below W.heap.size W W'):ol w n v W' :=
 ⟨(a.cell (p:=⟨w.heap.size,0,U⟩) h.c).trans h.b,(a.cell (p:=⟨w.heap.size,1,U⟩) h.c).trans h.a,au h.below a,mC h.c a.size⟩
theorem ol.r {w W:X}{n v:ae}(h:ol w n v W):ol w n v W.drew:=h.j (bj _ _)
theorem vN (l:aC)(a:ae)(ao:ag)(cap n:Nat)(w:X)(hl:bq w ao cap n (aI l))(hn:l.length=n)(hN:n<=1000000)(hs:∀p∈l,p.1.size<=2000∧p.2.size<=2000)(hnm:a.size<=2000):
 Calls prog 263 #[Z ao n cap,V a] w fun e w'=>∃gL b,e=Y (Z gL (aG a l).length b)∧aK w' w.heap.size 9 1 gL b (aG a l).length (fi (aG a l))∧Below w.heap.size w w':=by
 subst hn;obtain⟨i0,G,H,L,N⟩:=info_parts RB;have Hi:=G;have lg:=aa H;have kZ:=aa L;have lq:=aa N
 have m:=rj a w (by unfold maxLen;omega);have HX:∀p:ae,((⟨(be p.data.toList).toArray⟩:ae).toList==(⟨(be a.data.toList).toArray⟩:ae).toList)=decide (be p.data.toList=be a.data.toList):=by
  intro p;rw[Lib.toList_data,Lib.toList_data,iM];simp
 generalize (⟨(be a.data.toList).toArray⟩:ae)=sn at m HX;go_enter func263,ntmps263;go_wp2_with fail;refine m.mono ?_;rintro e w0 ⟨rfl,S⟩;go_wp2;go_loopw [6,13] (fun v t wr=>∃(k:Nat) (gL:ag) (b:Nat),k<=l.length∧t=I J k∧v=Z gL (aG a (l.take k)).length b∧aK wr w.heap.size 9 1 gL b (aG a (l.take k)).length (fi (aG a (l.take k)))∧Below w.heap.size w wr) (fun _ t _=>l.length-(intOf t).toNat)
 case atStart=>exact⟨0,U,0,ax _,rfl,rfl,aK.y _ _ _ _,S⟩
 case round =>
  obtain⟨k,gL,b,hk,rfl,rfl,hO,hB⟩:=hrel;have B:=hO;have r:=aa hB
  have T:=wK a (l.take k);have hvk:(l.take k).length<=k:=List.length_take_le _ _;by_cases c:k<l.length
  . have hpl:0<(aI l).length:=by rw[sO];omega
    obtain⟨bb,oo,rfl,s⟩:=hl.f hpl;have x:=s _ _ (om l k c).1;have h2:=s _ _ (om l k c).2;rw[<-gE] at h2;have hc0:=(r.o.cell (bY w _ x)).trans x;have hc1:=(r.o.cell (bY w _ h2)).trans h2;have HT:l.take (k+1)=l.take k++[l[k]]:=fR c;have hp1:=hs l[k] (fb c);have g:=fun W=>rj l[k].1 W (by unfold maxLen;omega);have xC:=fun W=>oS l[k].2 W (by have:=hp1.2;omega);have hlt':(k:Int)<l.length:=by omega
    have C:=Jg a (l.take k) l[k];rw[<-HT] at C;generalize l[k]=p at *;have AU:=HX p.1;generalize (⟨(be p.1.data.toList).toArray⟩:ae)=sp at g AU;generalize aG a (l.take k)=vs at B C T;by_cases d:be p.1.data.toList=be a.data.toList
    . have hx:=AU;rw[br d] at hx;have D:aG a (l.take (k+1))=vs++[p.2]:=by have:=C;rw[if_pos d] at this;exact this
      go_wp2_with fail;refine(g _).mono ?_;rintro e w1 ⟨rfl,i⟩;have j:=(ol.f wr p.1 p.2 _).j i;have B1:=au r.o j.below;have O1:=B.B j.below;have c1:=j.a;go_wp2_with fail;refine(xC _).mono ?_;rintro e w2 ⟨rfl,z⟩;have f:=au B1 z;have EP:=O1.B z;go_wp2_with (at_builtin;refine lO rfl (.tmp 22) (.tmp 26) 100 rfl w.heap.size 9 i0 (V ⟨#[]⟩) 1 16 underlying100 Hi lg.o kZ.o lq.o rfl (by decide) rfl (EP.G _) rfl (bq.j _ _ 1 _ _) rfl (fun u hu=>by simp at hu;subst hu;rfl) (by omega) (by omega) (by have:=f.size;simp;omega) ?_;intro lS iy w3 hO3 hG3 _)
      go_roundw
      case rel =>
       have e1:=D;refine⟨k+1,lS,iy,by omega,by go_num,by rw[e1,aD];rfl,?_,?_⟩
       . rw[e1,aD,L4];exact hO3
       . exact(f.alloc f.size _).grown hG3 (by have:=f.size;simp;omega) (fun q e=>by
          cases gL with
          | none=>simp[aw] at e
          | some y=>simp only[aw,jq] at e;have:=(EP.f y rfl).1;omega)
      case measure=>simp[intOf];omega
    . have hx:=AU;rw[ba d] at hx;have D:aG a (l.take (k+1))=vs:=by have:=C;rw[if_neg d] at this;exact this
      go_wp2_with fail;refine(g _).mono ?_;rintro e w1 ⟨rfl,i⟩;have j:=(ol.f wr p.1 p.2 _).j i;have B1:=au r.o j.below;have O1:=B.B j.below;go_wp2;go_roundw
      case rel=>exact⟨k+1,gL,b,by omega,by go_num,by rw[D],by rw[D];exact O1,B1⟩
      case measure=>simp[intOf];omega
  . obtain rfl:k=l.length:=by omega
    go_wp2;go_ret;have e:l.take l.length=l:=eQ;have x:=B;rw[e] at x;exact⟨gL,b,by rw[e];rfl,x,r.o⟩
theorem vO (l:aC)(a:ae)(ao:ag)(cap n:Nat)(w:X)(y:bq w ao cap n (aI l))(r:l.length=n)(z:n<=1000000)(B:∀p∈l,p.1.size<=2000∧p.2.size<=2000)(j:a.size<=2000):
 Calls prog 206 #[Z ao n cap,V a] w fun e w'=>e=Y (lU (iH (aG a l)))∧Below w.heap.size w w':=by
 have g:=vN l a ao cap n w y r z B j;have b:=wK a l;rw[r] at b;generalize aG a l=k at g b;rcases k with _ | ⟨v,_ | ⟨i,t⟩⟩
 . go_enter func206,ntmps206;go_wp2_with fail;refine g.mono ?_;rintro e s ⟨u,x,rfl,c,d⟩;have m:=c;have f:=aa d
   go_wp2;go_ret2;exact⟨oV (p:=([],10)) rfl rfl,f.o⟩
 . go_enter func206,ntmps206;go_wp2_with fail;refine g.mono ?_;rintro e s ⟨u,x,rfl,c,d⟩;have m:=c;have f:=aa d
   obtain⟨G,H,rfl,q⟩:=m.a.f (by simp[fi]);have C:=q 0 (V v) rfl;rw[mA] at C;go_wp2;go_ret2;exact⟨oV (p:=(v.data.toList,0)) rfl rfl,f.o⟩
 . have N:(((v::i::t).length:Int)==0)=F:=by rw[aQ,bG,bG];omega
   have S:(((v::i::t).length:Int)==1)=F:=by rw[aQ,bG,bG];omega
   have D:iH (v::i::t)=([],9):=rfl;generalize v::i::t=k at *;generalize k.length=L at *;go_enter func206,ntmps206;go_wp2_with fail;refine g.mono ?_;rintro e s ⟨u,x,rfl,c,d⟩;have m:=c;have f:=aa d
   go_wp2;go_ret2;exact⟨oV (p:=([],9)) D rfl,f.o⟩
theorem EJ (n v:ae)(w:X)(hn:n.size<=100000)(hv:v.size<=100000):
 Calls prog 229 #[.agg #[V n,V v]] w fun e w'=>e=Y (lU (bP n.data.toList v.data.toList))∧Below w.heap.size w w':=by
 have i:=fun W=>yi n W (by unfold maxLen;omega);have l:=fun W=>rf v W (by unfold maxLen;omega);have m:=aa (fun W=>ty v W (by omega));have x:n.data.toList.length=n.size:=by rw[cJ];rfl
 have y:v.data.toList.length=v.size:=by rw[cJ];rfl
 have z:bP n.data.toList v.data.toList=if fj n.data.toList=F then ([],6) else if 40<n.size∨200<n.size+2+v.size then ([],4) else if dO v.data.toList=F∨Lib.trimS v.data.toList cf≠v.data.toList then ([],3) else (n.data.toList++[58,32]++v.data.toList,0):=by
  unfold bP;rw[x,y]
 have B:=aa z;have j:(n++⟨#[58,32]⟩++v).size=n.size+2+v.size:=by simp[ByteArray.size_append];rfl
 have C:Hid (n++⟨#[58,32]⟩++v=⟨(n.data.toList++[58,32]++v.data.toList).toArray⟩):=yU (by rw[ma,ma]);cases p:fj n.data.toList
 . rw[p] at i;have f:bP n.data.toList v.data.toList=([],6):=by have:=B.o;rw[if_pos p] at this;exact this
   clear B p l m C;go_enter func229,ntmps229;go_wp2_with fail;refine(i _).mono ?_;rintro e g ⟨rfl,a⟩;have k:=P9 ⟨0,a⟩;clear a;go_wp2;go_ret2;exact⟨oV f rfl,k⟩
 . rw[p] at i;have D:=B.o;rw[if_neg (by rw[p];simp)] at D;by_cases q:40<n.size∨200<n.size+2+v.size
   . have f:bP n.data.toList v.data.toList=([],4):=by have:=D;rw[if_pos q] at this;exact this
     by_cases r:40<n.size
     . have N:decide ((n.size:Int) > 40)=true:=by rw[bR];omega
       go_enter func229,ntmps229;go_wp2_with fail;refine(i _).mono ?_;rintro e g ⟨rfl,a⟩;have b:ol w n v g:=by rw[a];exact ol.f w n v _
       clear a;have u:=b.b;go_wp2;go_ret2;exact⟨oV f rfl,b.below⟩
     . have N:decide ((n.size:Int) > 40)=F:=by rw[cC];omega
       have t2:decide (((n++⟨#[58,32]⟩++v).size:Int) > 200)=true:=by rw[bR,j];omega
       clear j;go_enter func229,ntmps229;go_wp2_with fail;refine(i _).mono ?_;rintro e g ⟨rfl,a⟩;have b:ol w n v g:=by rw[a];exact ol.f w n v _
       clear a;have u:=b.b;generalize n++⟨#[58,32]⟩++v=G at *;go_wp2;go_ret2;exact⟨oV f rfl,b.below⟩
   . have r:=D;rw[if_neg q] at r;have N:decide ((n.size:Int) > 40)=F:=by rw[cC];omega
     have t2:decide (((n++⟨#[58,32]⟩++v).size:Int) > 200)=F:=by rw[cC,j];omega
     cases c:dO v.data.toList
     . rw[c] at l;have f:bP n.data.toList v.data.toList=([],3):=by have:=r;rw[if_pos (Or.inl c)] at this;exact this
       go_enter func229,ntmps229;go_wp2_with fail;refine(i _).mono ?_;rintro e g ⟨rfl,a⟩;have b:ol w n v g:=by rw[a];exact ol.f w n v _
       clear a;have u:=b.b;have S:=b.a;generalize n++⟨#[58,32]⟩++v=G at *;go_wp2_with fail;refine(l _).mono ?_;rintro e T ⟨rfl,a⟩;subst a;go_wp2;go_ret2;exact⟨oV f rfl,b.below⟩
     . rw[c] at l;by_cases d:Lib.trimS v.data.toList cf=v.data.toList
       . have f:Hid (bP n.data.toList v.data.toList=(n.data.toList++[58,32]++v.data.toList,0)):=by have:=r;rw[if_neg (by rw[c,d];simp)] at this;exact this
         rw[d] at m;have s:(⟨v.data.toList.toArray⟩:ae)=v:=rfl;rw[s] at m;clear  c d s;go_enter func229,ntmps229;go_wp2_with fail;refine(i _).mono ?_;rintro e g ⟨rfl,a⟩;have b:Hid (ol w n v g):=by rw[a];exact ol.f w n v _
         clear a;have u:=b.out.b;have S:=b.out.a;generalize n++⟨#[58,32]⟩++v=G at *;go_wp2_with fail;refine(l _).mono ?_;rintro e T ⟨rfl,a⟩;subst a;go_wp2;go_region_held3 (fun w'=>w'.cell? ⟨w.heap.size,1,U⟩=M (V v)) (go_keep) (first | (go_at_call 281;refine(m.o _).mono ?_;rintro e w5 ⟨rfl,k⟩;have t:=aa (b.out.r.j k);have H:=t.out.a;clear k))
         all_goals
          go_wp2;go_ret2;exact⟨oV f.o (by unfold lU;rw[<-C.o];rfl),t.out.below⟩
       . have f:bP n.data.toList v.data.toList=([],3):=by have:=r;rw[if_pos (Or.inr d)] at this;exact this
         have L:((⟨(Lib.trimS v.data.toList cf).toArray⟩:ae).toList==v.toList)=F:=by
          rw[Lib.toList_data,Lib.toList_data,aQ];simpa using d
         clear  c d C;generalize (⟨(Lib.trimS v.data.toList cf).toArray⟩:ae)=tv at m L;go_enter func229,ntmps229;go_wp2_with fail;refine(i _).mono ?_;rintro e g ⟨rfl,a⟩;have b:ol w n v g:=by rw[a];exact ol.f w n v _
         clear a;have u:=b.b;have S:=b.a;generalize n++⟨#[58,32]⟩++v=G at *;go_wp2_with fail;refine(l _).mono ?_;rintro e T ⟨rfl,a⟩;subst a;go_wp2;go_region_held3 (fun w'=>w'.cell? ⟨w.heap.size,1,U⟩=M (V v)) (go_keep) (first | (go_at_call 281;refine(m.o _).mono ?_;rintro e w5 ⟨rfl,k⟩;have t:=aa (b.r.j k);have H:=t.out.a;clear k))
         all_goals
          go_wp2;go_ret2;exact⟨oV f rfl,t.out.below⟩
def uy:ae:=⟨#[72,111,115,116]⟩
def uz:ae:=⟨#[67,111,110,116,101,110,116,45,76,101,110,103,116,104]⟩
def uA:ae:=⟨#[84,114,97,110,115,102,101,114,45,69,110,99,111,100,105,110,103]⟩
theorem El (l:aC):aG uy l=aG gv l:=wJ _ _ l (by decide)
theorem Em (l:aC):aG uz l=aG gn l:=wJ _ _ l (by decide)
theorem En (l:aC):aG uA l=aG go l:=wJ _ _ l (by decide)
theorem yv (l:aC)(a:ae)(ao:ag)(cap n:Nat)(w:X)(f:bq w ao cap n (aI l))(g:l.length=n)(i:n<=1000000)(j:∀p∈l,p.1.size<=2000∧p.2.size<=2000)(b:a.size<=2000):
 Calls prog 277 #[Z ao n cap,V a] w fun e w'=>e=Y (I J ((aG a l).length:Int))∧Below w.heap.size w w':=by
 have c:=vN l a ao cap n w f g i j b;generalize (aG a l)=q at c ⊢;go_enter func277,ntmps277;go_wp2_with (go_at_call 263;refine c.mono ?_;rintro e r ⟨s,t,rfl,k,d⟩;have m:=aa d;clear k d)
 go_ret;exact⟨rfl,m.o⟩
theorem Oo (gh mi:Nat)(l:aC)(fo:ag)(gy n:Nat)(w:X)(c2:w.cell? ⟨gh,2,U⟩=M (I J (mi:Int)))(c3:w.cell? ⟨gh,3,U⟩=M (Z fo n gy))(hl:bq w fo gy n (aI l))(hn:l.length=n)(hN:n<=16)(hs:∀p∈l,p.1.size<=2000∧p.2.size<=2000):
 Calls prog 278 #[.pointer (M ⟨gh,0,U⟩)] w fun e w'=>e=Y (rZ (oL mi (bX (aG gn l)) (bX (aG go l))))∧Below w.heap.size w w':=by
 have C:=vN l uA fo gy n w hl hn (by omega) hs (by decide);have D:=fun W (hW:Below w.heap.size w W)=>vN l uz fo gy n W (hl.a hW) hn (by omega) hs (by decide);rw[En] at C;simp only[Em] at D;have B:=fun W (hW:Below w.heap.size w W)=>And.intro ((hW.cell (bY w _ c2)).trans c2) ((hW.cell (bY w _ c3)).trans c3);have hm1:∀v∈aG go l,v.size<=2000:=fun v hv=>by
  obtain⟨p,hp,rfl⟩:=wL hv;exact(hs p hp).2
 have hm2:∀v∈aG gn l,v.size<=2000:=fun v hv=>by
  obtain⟨p,hp,rfl⟩:=wL hv;exact(hs p hp).2
 have hv1:=wK go l;have hv2:=wK gn l;generalize aG go l=i at C hm1 hv1 ⊢;generalize aG gn l=m at D hm2 hv2 ⊢;have YB:=hm1;have HM2:=aa hm2
 have hcl:i.length<=16:=by omega
 have hvl:m.length<=16:=by omega
 unfold uA at C;simp only[uz] at D;have T:oL mi (bX m) (bX i)=if bX i≠[] then (if bX m≠[]∨mi=0 then .inl 12 else if (bX i).length≠1∨be ((bX i).headD [])≠uN then .inl 11 else .inr (-1)) else pB (bX m):=rfl
 generalize oL mi (bX m) (bX i)=aaJ at T ⊢;have L:∀l:List ae,(bX l).length=l.length:=fun l=>by simp[bX]
 have N:∀l:List ae,bX l≠[]<->0<l.length:=fun l=>by rw[<-L l];exact List.length_pos_iff.symm
 by_cases hc0:i.length=0
 . have t0:((i.length:Int)==0)=true:=cR.2 (by omega);have HS:=fun ao cap W h=>Jd m ao cap W h (by omega) HM2.o;have t:aaJ=pB (bX m):=by rw[T,if_neg (by rw[N];omega)]
   subst t;generalize pB (bX m)=aaJ at HS ⊢;generalize i.length=nc at *;go_enter func278,ntmps278;go_wp2_with fail;refine C.mono ?_;rintro e q ⟨VZ,ER,rfl,y,a⟩;have G:=y;have f:=aa a
   have u:=(B q a).2;go_wp2_with fail;refine(D q f.o).mono ?_;rintro e z ⟨jZ,s,rfl,g,b⟩;have VY:=g.a;have j:=aa (G.a.a b);have d:=aa (au f.o b)
   have H:=(B z d.o).1;cases aaJ with
   | inl c =>
     unfold rZ at HS;go_wp2_with fail;refine(HS _ _ _ VY).mono ?_;rintro e w3 ⟨rfl,hw⟩;subst hw;go_wp2;go_ret2;exact⟨rfl,d.o⟩
   | inr k =>
     unfold rZ at HS;go_wp2_with fail;refine(HS _ _ _ VY).mono ?_;rintro e w3 ⟨rfl,hw⟩;subst hw;go_wp2;go_ret2;exact⟨rfl,d.o⟩
 . have t0:((i.length:Int)==0)=F:=aQ.2 (by omega);have t:=T;rw[if_pos ((N i).2 (by omega))] at t;by_cases hv0:0<m.length
   . have tv:decide ((m.length:Int) > 0)=true:=br (by omega);rw[if_pos (Or.inl ((N m).2 hv0))] at t;subst t;go_enter func278,ntmps278;go_wp2_with fail;refine C.mono ?_;rintro e q ⟨VZ,ER,rfl,y,a⟩;have G:=y;have f:=aa a
     have u:=(B q a).2;go_wp2_with fail;refine(D q f.o).mono ?_;rintro e z ⟨jZ,s,rfl,g,b⟩;have VY:=g.a;have j:=aa (G.a.a b);have d:=aa (au f.o b)
     have H:=(B z d.o).1;go_wp2;go_ret2;exact⟨rfl,d.o⟩
   . have tv:decide ((m.length:Int) > 0)=F:=ba (by omega);by_cases hm0:mi=0
     . have tm:((mi:Int)==0)=true:=cR.2 (by omega);rw[if_pos (Or.inr hm0)] at t;subst t;generalize m.length=nv at *;go_enter func278,ntmps278;go_wp2_with fail;refine C.mono ?_;rintro e q ⟨VZ,ER,rfl,y,a⟩;have G:=y;have f:=aa a
       have u:=(B q a).2;go_wp2_with fail;refine(D q f.o).mono ?_;rintro e z ⟨jZ,s,rfl,g,b⟩;have VY:=g.a;have j:=aa (G.a.a b);have d:=aa (au f.o b)
       have H:=(B z d.o).1;go_wp2;go_ret2;exact⟨rfl,d.o⟩
     . have tm:((mi:Int)==0)=F:=aQ.2 (by omega);rw[if_neg (fun e=>by rcases e with e | e;exact hv0 ((N m).1 e);exact hm0 e)] at t;by_cases hc1:1<i.length
       . have t1:decide ((i.length:Int) > 1)=true:=br (by omega);rw[if_pos (Or.inl (by rw[L];omega))] at t;subst t;generalize m.length=nv at *;go_enter func278,ntmps278;go_wp2_with fail;refine C.mono ?_;rintro e q ⟨VZ,ER,rfl,y,a⟩;have G:=y;have f:=aa a
         have u:=(B q a).2;go_wp2_with fail;refine(D q f.o).mono ?_;rintro e z ⟨jZ,s,rfl,g,b⟩;have VY:=g.a;have j:=aa (G.a.a b);have d:=aa (au f.o b)
         have H:=(B z d.o).1;go_wp2;go_ret2;exact⟨rfl,d.o⟩
       . have t1:decide ((i.length:Int) > 1)=F:=ba (by omega);have adR:0<i.length:=by omega
         have hhd:(bX i).headD []=i[0].data.toList:=by
          cases i with
          | nil=>simp at adR
          | cons v r=>rfl
         have ZM:=pV i 0 adR;have hsz:=YB i[0] (fb adR);rw[hhd,L] at t;generalize i[0]=x at *;have xE:=fun W=>rj x W (by unfold maxLen;omega);have hcp:(bX i).length=1:=by rw[L];omega
         by_cases S:be x.data.toList=uN
         . rw[if_neg (fun e=>by rcases e with e | e;exact e (by omega);exact e S)] at t;subst t;rw[S] at xE;generalize m.length=nv at *;go_enter func278,ntmps278;go_wp2_with fail;refine C.mono ?_;rintro e q ⟨VZ,ER,rfl,y,a⟩;have G:=y;have f:=aa a
           have u:=(B q a).2;clear y a;go_wp2_with fail;refine(D q f.o).mono ?_;rintro e z ⟨jZ,s,rfl,g,b⟩;have VY:=aa g.a;have j:=aa (G.a.a b);have d:=aa (au f.o b)
           have H:=(B z d.o).1;clear g b u c3 C D;obtain⟨bb,oo,rfl,hcc⟩:=j.o.f (by rw[oR];omega);have x0:z.cell? ⟨bb,oo,U⟩=M (V x):=by have:=hcc 0 _ ZM;simpa using this
           have hcap:=j.o.1;go_wp2_with fail;refine(xE _).mono ?_;rintro e w3 ⟨rfl,hb3⟩;have HB3:=au d.o hb3;go_wp2;go_ret2;exact⟨rfl,HB3⟩
         . rw[if_pos (Or.inr S)] at t;subst t;have hne:((⟨(be x.data.toList).toArray⟩:ae).toList==[99,104,117,110,107,101,100])=F:=by
            rw[Lib.toList_data,aQ];exact S
           generalize (⟨(be x.data.toList).toArray⟩:ae)=lx at xE hne;generalize m.length=nv at *;go_enter func278,ntmps278;go_wp2_with fail;refine C.mono ?_;rintro e q ⟨VZ,ER,rfl,y,a⟩;have G:=y;have f:=aa a
           have u:=(B q a).2;clear y a;go_wp2_with fail;refine(D q f.o).mono ?_;rintro e z ⟨jZ,s,rfl,g,b⟩;have VY:=aa g.a;have j:=aa (G.a.a b);have d:=aa (au f.o b)
           have H:=(B z d.o).1;clear g b u c3 C D;obtain⟨bb,oo,rfl,hcc⟩:=j.o.f (by rw[oR];omega);have x0:z.cell? ⟨bb,oo,U⟩=M (V x):=by have:=hcc 0 _ ZM;simpa using this
           have hcap:=j.o.1;go_wp2_with fail;refine(xE _).mono ?_;rintro e w3 ⟨rfl,hb3⟩;have HB3:=au d.o hb3;go_wp2;go_ret2;exact⟨rfl,HB3⟩
