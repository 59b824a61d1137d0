import Derived.Deep.RegionHeld3
import Derived.Test.YtodmelffkfbalaaGreatDoorPk16
import Derived.Test.YtodmelffkfbalaaGreatDoorRqNum
open Go.Value renaming int->I,string->V,slice->Z
open Go.IntKind renaming i64->J
open Go.Ending renaming returned->Y
open Option renaming none->U,some->M
open Bool renaming false->F
open Go renaming World->X
set_option maxHeartbeats 2000000
set_option maxRecDepth 100000
open Go.Proofs.Tryz
namespace Go.Proofs.YtodmelffkfbalaaGreatDoor
open Go.RowKit
structure ox (w W:X):Prop where
 b:W.cell? ⟨w.heap.size,0,U⟩=M (V ⟨#[]⟩)
 c:W.cell? ⟨w.heap.size,1,U⟩=M (V ⟨#[]⟩)
 d:W.frozen? ⟨w.heap.size,0,U⟩=F
 e:W.frozen? ⟨w.heap.size,1,U⟩=F
 below:Below w.heap.size w W
 g:w.heap.size<W.heap.size
theorem ox.j (w:X)(t:Nat):ox w (w.alloc (.cells #[V ⟨#[]⟩,V ⟨#[]⟩] t)) :=
 ⟨World.cell?_alloc_mark w _ _ _ 0,World.cell?_alloc_mark w _ _ _ 1,World.frozen?_alloc_mark w _ _ _ _ 0,World.frozen?_alloc_mark w _ _ _ _ 1,(ar _ _).alloc (am _) _,by simp⟩
theorem ox.a {w W W':X}(h:ox w W)(a:Below W.heap.size W W'):ox w W' :=
 ⟨(a.cell (p:=⟨w.heap.size,0,U⟩) h.g).trans h.b,(a.cell (p:=⟨w.heap.size,1,U⟩) h.g).trans h.c,(a.frozen (p:=⟨w.heap.size,0,U⟩) h.g).trans h.d,(a.frozen (p:=⟨w.heap.size,1,U⟩) h.g).trans h.e,au h.below a,nC h.g a.size⟩
theorem ox.f {w W:X}(h:ox w W)(n:Nat):ox w (W.drewN n):=h.a (iP ⟨n,rfl⟩)
theorem yt (s:ae)(w:X)(hs:s.size<=2000):
 Calls prog 279 #[V s] w fun e w'=>e=Y (tZ (aZ s.data.toList))∧Below w.heap.size w w':=by
 have d:=fun W=>rB s 58 W (by unfold maxLen;omega);have H:s.data.toList.length=s.size:=by rw[cI];rfl
 have g:=aa (Jy s.data.toList);rw[H] at g;unfold jY at d;by_cases u:aV 58 s.data.toList=s.size
 . rw[if_pos u] at d;have r:aZ s.data.toList=jg 5:=by have:=g.o;rw[if_pos u] at this;exact this
   clear g u H;go_enter func279,ntmps279;go_wp2_with fail;refine(d _).mono ?_;rintro e i ⟨rfl,n,b⟩;have f:ox w i:=by rw[b];exact(ox.j w _).f n
   clear b d;go_wp2_with fail;refine(tD ⟨#[]⟩ i (by decide)).mono ?_;rintro e L ⟨rfl,a⟩;have c:=f.a a;have j:=c.b;have l:=c.c;have N:=c.d;have S:=c.e
   clear f a;go_wp2;refine aS (v:=.tuple #[.agg #[V ⟨#[]⟩,V ⟨#[]⟩],I J 5]) (by simp[results,results279,go_sem,j,l]) rfl ⟨by rw[r];rfl,?_⟩;exact(c.below.setCell (am _) _).setCell (am _) _
 . rw[if_neg u] at d;have hk:=Jz 58 s.data.toList;rw[H] at hk;have p:=g.o;rw[if_neg u] at p;have hlt:aV 58 s.data.toList<s.size:=by omega
   clear g u H hk;generalize aV 58 s.data.toList=k at d p hlt;have e1:(s.extract 0 k).data.toList=s.data.toList.take k:=by rw[Lib.extract_data];simp
   have e2:=Lib.extract_to_end s (k+1);rw[<-e1,<-e2] at p;have z1:(s.extract 0 k).size=k:=by simp;omega
   have z2:(s.extract (k+1) s.size).size<=2000:=by simp;omega
   have t:=fun W=>yh (s.extract 0 k) W (by rw[z1];unfold maxLen;omega);have m:=aa (fun W=>tD (s.extract (k+1) s.size) W (co z2 (by decide)));have xE:=fun W=>oZ (s.extract 0 k) W (by omega);have x:(⟨(Lib.trimS (s.extract (k+1) s.size).data.toList bX).toArray⟩:ae).size<=maxLen:=by
    have p:=yA (s.extract (k+1) s.size).data.toList;rw[cA] at p;show(Lib.trimS _ bX).toArray.size<=maxLen;rw[cx];unfold maxLen;omega
   have q:=aa (fun W=>rj ⟨(Lib.trimS (s.extract (k+1) s.size).data.toList bX).toArray⟩ W x);clear e1 e2 z2 x;generalize s.extract (k+1) s.size=rest at d m q p;have y:(⟨(Lib.trimS rest.data.toList bX).toArray⟩:ae).data.toList=Lib.trimS rest.data.toList bX:=rfl;rw[y] at q;generalize s.extract 0 k=T at d t xE p z1;have g:=aa p;generalize Lib.trimS rest.data.toList bX=tv at m q g;cases z:fi T.data.toList
   . rw[z] at t;have r:aZ s.data.toList=jg 6:=by have:=g.o;rw[if_pos z] at this;exact this
     go_enter func279,ntmps279;go_wp2_with fail;refine(d _).mono ?_;rintro e i ⟨rfl,n,b⟩;have f:ox w i:=by rw[b];exact(ox.j w _).f n
     clear b d;go_wp2_with fail;refine(m.o _).mono ?_;rintro e L ⟨rfl,a⟩;have c:=f.a a;have j:=c.b;have l:=c.c;have N:=c.d;have S:=c.e
     clear f a m;go_wp2_with fail;refine(t _).mono ?_;rintro e w3 ⟨rfl,b⟩;subst b;go_wp2;refine aS (v:=.tuple #[.agg #[V ⟨#[]⟩,V ⟨#[]⟩],I J 6]) (by simp[results,results279,go_sem,j,l]) rfl ⟨by rw[r];rfl,?_⟩;exact(c.below.setCell (am _) _).setCell (am _) _
   . rw[z] at t;have h6:=g.o;rw[if_neg (by rw[z];simp)] at h6;clear g z;by_cases B:40<k
     . have r:aZ s.data.toList=jg 4:=by have:=h6;rw[if_pos B] at this;exact this
       have t40:decide ((T.size:Int) > 40)=true:=by rw[bN];omega
       clear  q xE;go_enter func279,ntmps279;go_wp2_with fail;refine(d _).mono ?_;rintro e i ⟨rfl,n,b⟩;have f:ox w i:=by rw[b];exact(ox.j w _).f n
       clear b d;go_wp2_with fail;refine(m.o _).mono ?_;rintro e L ⟨rfl,a⟩;have c:=f.a a;have j:=c.b;have l:=c.c;have N:=c.d;have S:=c.e
       go_wp2_with fail;refine(t _).mono ?_;rintro e w3 ⟨rfl,b⟩;subst b;go_wp2;refine aS (v:=.tuple #[.agg #[V ⟨#[]⟩,V ⟨#[]⟩],I J 4]) (by simp[results,results279,go_sem,j,l]) rfl ⟨by rw[r];rfl,?_⟩;exact(c.below.setCell (am _) _).setCell (am _) _
     . have h4:=h6;rw[if_neg B] at h4;have t40:decide ((T.size:Int) > 40)=F:=by rw[cz];omega
       cases C:dP tv
       . rw[C] at q;have r:aZ s.data.toList=jg 3:=by have:=h4;rw[if_pos C] at this;exact this
         go_enter func279,ntmps279;go_wp2_with fail;refine(d _).mono ?_;rintro e i ⟨rfl,n,b⟩;have f:ox w i:=by rw[b];exact(ox.j w _).f n
         clear b d;go_wp2_with fail;refine(m.o _).mono ?_;rintro e L ⟨rfl,a⟩;have c:=f.a a;have j:=c.b;have l:=c.c;have N:=c.d;have S:=c.e
         clear f a m;go_wp2_with fail;refine(t _).mono ?_;rintro e w3 ⟨rfl,b⟩;subst b;go_wp2_with fail;refine(q.o _).mono ?_;rintro e w4 ⟨rfl,b⟩;subst b;go_wp2;refine aS (v:=.tuple #[.agg #[V ⟨#[]⟩,V ⟨#[]⟩],I J 3]) (by simp[results,results279,go_sem,j,l]) rfl ⟨by rw[r];rfl,?_⟩;exact(c.below.setCell (am _) _).setCell (am _) _
       . rw[C] at q;have h3:=h4;rw[if_neg (by rw[C];simp)] at h3;clear  C ;go_enter func279,ntmps279;go_wp2_with fail;refine(d _).mono ?_;rintro e i ⟨rfl,n,b⟩;have f:ox w i:=by rw[b];exact(ox.j w _).f n
         clear b d;go_wp2_with fail;refine(m.o _).mono ?_;rintro e L ⟨rfl,a⟩;have c:=f.a a;clear f a m;go_wp2_with fail;refine(t _).mono ?_;rintro e w3 ⟨rfl,b⟩;subst b;go_wp2_with fail;refine(q.o _).mono ?_;rintro e w4 ⟨rfl,b⟩;subst b;go_wp2_with fail;refine(xE _).mono ?_;rintro e w5 ⟨rfl,D⟩;have G:=c.a D;have j:=G.b;have l:=G.c;have N:=G.d;have S:=G.e
         clear c D;go_wp2;refine aS (v:=.tuple #[.agg #[V T,V ⟨tv.toArray⟩],I J 0]) (by simp[results,results279,go_sem,j,l]) rfl ⟨by rw[h3];rfl,?_⟩;exact(G.below.setCell (am _) _).setCell (am _) _
structure ov (w:X)(n v:ae)(W:X):Prop where
 b:W.cell? ⟨w.heap.size,0,U⟩=M (V n)
 a:W.cell? ⟨w.heap.size,1,U⟩=M (V v)
 below:Below w.heap.size w W
 c:w.heap.size<W.heap.size
theorem ov.e (w:X)(n v:ae)(t:Nat):ov w n v (w.alloc (.cells #[V n,V v] t)) :=
 ⟨World.cell?_alloc_mark w _ _ _ 0,World.cell?_alloc_mark w _ _ _ 1,(ar _ _).alloc (am _) _,by simp⟩
theorem ov.f {w W W':X}{n v:ae}(h:ov w n v W)(a:Below W.heap.size W W'):ov w n v W' :=
 ⟨(a.cell (p:=⟨w.heap.size,0,U⟩) h.c).trans h.b,(a.cell (p:=⟨w.heap.size,1,U⟩) h.c).trans h.a,au h.below a,nC h.c a.size⟩
theorem ov.j {w W:X}{n v:ae}(h:ov w n v W):ov w n v W.drew:=h.f (bg _ _)
theorem vP (l:aC)(a:ae)(ao:ag)(cap n:Nat)(w:X)(hl:bx w ao cap n (aJ l))(hn:l.length=n)(hN:n<=1000000)(hs:∀p∈l,p.1.size<=2000∧p.2.size<=2000)(hnm:a.size<=2000):
 Calls prog 263 #[Z ao n cap,V a] w fun e w'=>∃gL b,e=Y (Z gL (aH a l).length b)∧aL w' w.heap.size 9 1 gL b (aH a l).length (jb (aH a l))∧Below w.heap.size w w':=by
 subst hn;obtain⟨i0,G,H,L,N⟩:=info_parts RF;have Hi:=G;have kS:=aa H;have kM:=aa L;have kT:=aa N
 have m:=rs a w (by unfold maxLen;omega);have HX:∀p:ae,((⟨(aY p.data.toList).toArray⟩:ae).toList==(⟨(aY a.data.toList).toArray⟩:ae).toList)=decide (aY p.data.toList=aY a.data.toList):=by
  intro p;rw[Lib.toList_data,Lib.toList_data,ix];simp
 generalize (⟨(aY a.data.toList).toArray⟩:ae)=sn at m HX;go_enter func263,ntmps263;go_wp2_with fail;refine m.mono ?_;rintro e w0 ⟨rfl,S⟩;go_wp2;go_loopw [6,13] (fun v t wr=>∃(k:Nat) (gL:ag) (b:Nat),k<=l.length∧t=I J k∧v=Z gL (aH a (l.take k)).length b∧aL wr w.heap.size 9 1 gL b (aH a (l.take k)).length (jb (aH a (l.take k)))∧Below w.heap.size w wr) (fun _ t _=>l.length-(intOf t).toNat)
 case atStart=>exact⟨0,U,0,ax _,rfl,rfl,aL.q _ _ _ _,S⟩
 case round =>
  obtain⟨k,gL,b,hk,rfl,rfl,hO,hB⟩:=hrel;have B:=hO;have r:=aa hB
  have T:=wD a (l.take k);have hvk:(l.take k).length<=k:=List.length_take_le _ _;by_cases c:k<l.length
  . have hpl:0<(aJ l).length:=by rw[sS];omega
    obtain⟨bb,oo,rfl,s⟩:=hl.f hpl;have x:=s _ _ (ow l k c).1;have h2:=s _ _ (ow l k c).2;rw[<-gE] at h2;have hc0:=(r.o.cell (ch w _ x)).trans x;have hc1:=(r.o.cell (ch w _ h2)).trans h2;have HT:l.take (k+1)=l.take k++[l[k]]:=fR c;have hp1:=hs l[k] (eX c);have g:=fun W=>rs l[k].1 W (by unfold maxLen;omega);have xE:=fun W=>oZ l[k].2 W (by have:=hp1.2;omega);have hlt':(k:Int)<l.length:=by omega
    have C:=Jw a (l.take k) l[k];rw[<-HT] at C;generalize l[k]=p at *;have Bb:=HX p.1;generalize (⟨(aY p.1.data.toList).toArray⟩:ae)=sp at g Bb;generalize aH a (l.take k)=vs at B C T;by_cases d:aY p.1.data.toList=aY a.data.toList
    . have hx:=Bb;rw[bq d] at hx;have D:aH a (l.take (k+1))=vs++[p.2]:=by have:=C;rw[if_pos d] at this;exact this
      go_wp2_with fail;refine(g _).mono ?_;rintro e w1 ⟨rfl,i⟩;have j:=(ov.e wr p.1 p.2 _).f i;have B1:=au r.o j.below;have O1:=B.r j.below;have c1:=j.a;go_wp2_with fail;refine(xE _).mono ?_;rintro e w2 ⟨rfl,z⟩;have f:=au B1 z;have xG:=O1.r z;go_wp2_with (at_builtin;refine lP rfl (.tmp 22) (.tmp 26) 100 rfl w.heap.size 9 i0 (V ⟨#[]⟩) 1 16 underlying100 Hi kS.o kM.o kT.o rfl (by decide) rfl (xG.y _) rfl (bx.e _ _ 1 _ _) rfl (fun u hu=>by simp at hu;subst hu;rfl) (by omega) (by omega) (by have:=f.size;simp;omega) ?_;intro lN iw w3 hO3 hG3 _)
      go_roundw
      case rel =>
       have e1:=D;refine⟨k+1,lN,iw,by omega,by go_num,by rw[e1,aD];rfl,?_,?_⟩
       . rw[e1,aD,Mi];exact hO3
       . exact(f.alloc f.size _).grown hG3 (by have:=f.size;simp;omega) (fun q e=>by
          cases gL with
          | none=>simp[aw] at e
          | some y=>simp only[aw,jr] at e;have:=(xG.e y rfl).1;omega)
      case measure=>simp[intOf];omega
    . have hx:=Bb;rw[aX d] at hx;have D:aH a (l.take (k+1))=vs:=by have:=C;rw[if_neg d] at this;exact this
      go_wp2_with fail;refine(g _).mono ?_;rintro e w1 ⟨rfl,i⟩;have j:=(ov.e wr p.1 p.2 _).f i;have B1:=au r.o j.below;have O1:=B.r j.below;go_wp2;go_roundw
      case rel=>exact⟨k+1,gL,b,by omega,by go_num,by rw[D],by rw[D];exact O1,B1⟩
      case measure=>simp[intOf];omega
  . obtain rfl:k=l.length:=by omega
    go_wp2;go_ret;have e:l.take l.length=l:=fL;have x:=B;rw[e] at x;exact⟨gL,b,by rw[e];rfl,x,r.o⟩
theorem vQ (l:aC)(a:ae)(ao:ag)(cap n:Nat)(w:X)(y:bx w ao cap n (aJ l))(r:l.length=n)(z:n<=1000000)(B:∀p∈l,p.1.size<=2000∧p.2.size<=2000)(j:a.size<=2000):
 Calls prog 206 #[Z ao n cap,V a] w fun e w'=>e=Y (lW (iI (aH a l)))∧Below w.heap.size w w':=by
 have g:=vP l a ao cap n w y r z B j;have b:=wD a l;rw[r] at b;generalize aH a l=k at g b;rcases k with _ | ⟨v,_ | ⟨i,t⟩⟩
 . go_enter func206,ntmps206;go_wp2_with fail;refine g.mono ?_;rintro e s ⟨u,x,rfl,c,d⟩;have m:=c;have f:=aa d
   go_wp2;go_ret2;exact⟨pc (p:=([],10)) rfl rfl,f.o⟩
 . go_enter func206,ntmps206;go_wp2_with fail;refine g.mono ?_;rintro e s ⟨u,x,rfl,c,d⟩;have m:=c;have f:=aa d
   obtain⟨G,H,rfl,q⟩:=m.a.f (by simp[jb]);have C:=q 0 (V v) rfl;rw[mA] at C;go_wp2;go_ret2;exact⟨pc (p:=(v.data.toList,0)) rfl rfl,f.o⟩
 . have N:(((v::i::t).length:Int)==0)=F:=by rw[aO,bF,bF];omega
   have S:(((v::i::t).length:Int)==1)=F:=by rw[aO,bF,bF];omega
   have D:iI (v::i::t)=([],9):=rfl;generalize v::i::t=k at *;generalize k.length=L at *;go_enter func206,ntmps206;go_wp2_with fail;refine g.mono ?_;rintro e s ⟨u,x,rfl,c,d⟩;have m:=c;have f:=aa d
   go_wp2;go_ret2;exact⟨pc (p:=([],9)) D rfl,f.o⟩
theorem EP (n v:ae)(w:X)(hn:n.size<=100000)(hv:v.size<=100000):
 Calls prog 229 #[.agg #[V n,V v]] w fun e w'=>e=Y (lW (bO n.data.toList v.data.toList))∧Below w.heap.size w w':=by
 have i:=fun W=>yh n W (by unfold maxLen;omega);have l:=fun W=>rj v W (by unfold maxLen;omega);have m:=aa (fun W=>tD v W (by omega));have x:n.data.toList.length=n.size:=by rw[cI];rfl
 have y:v.data.toList.length=v.size:=by rw[cI];rfl
 have z:bO n.data.toList v.data.toList=if fi n.data.toList=F then ([],6) else if 40<n.size∨200<n.size+2+v.size then ([],4) else if dP v.data.toList=F∨Lib.trimS v.data.toList bX≠v.data.toList then ([],3) else (n.data.toList++[58,32]++v.data.toList,0):=by
  unfold bO;rw[x,y]
 have B:=aa z;have j:(n++⟨#[58,32]⟩++v).size=n.size+2+v.size:=by simp[ByteArray.size_append];rfl
 have C:Hid (n++⟨#[58,32]⟩++v=⟨(n.data.toList++[58,32]++v.data.toList).toArray⟩):=ph (by rw[jy,jy]);cases p:fi n.data.toList
 . rw[p] at i;have f:bO n.data.toList v.data.toList=([],6):=by have:=B.o;rw[if_pos p] at this;exact this
   clear B p l m C;go_enter func229,ntmps229;go_wp2_with fail;refine(i _).mono ?_;rintro e g ⟨rfl,a⟩;have k:=Qk ⟨0,a⟩;clear a;go_wp2;go_ret2;exact⟨pc f rfl,k⟩
 . rw[p] at i;have D:=B.o;rw[if_neg (by rw[p];simp)] at D;by_cases q:40<n.size∨200<n.size+2+v.size
   . have f:bO n.data.toList v.data.toList=([],4):=by have:=D;rw[if_pos q] at this;exact this
     by_cases r:40<n.size
     . have N:decide ((n.size:Int) > 40)=true:=by rw[bN];omega
       go_enter func229,ntmps229;go_wp2_with fail;refine(i _).mono ?_;rintro e g ⟨rfl,a⟩;have b:ov w n v g:=by rw[a];exact ov.e w n v _
       clear a;have u:=b.b;go_wp2;go_ret2;exact⟨pc f rfl,b.below⟩
     . have N:decide ((n.size:Int) > 40)=F:=by rw[cz];omega
       have t2:decide (((n++⟨#[58,32]⟩++v).size:Int) > 200)=true:=by rw[bN,j];omega
       clear j;go_enter func229,ntmps229;go_wp2_with fail;refine(i _).mono ?_;rintro e g ⟨rfl,a⟩;have b:ov w n v g:=by rw[a];exact ov.e w n v _
       clear a;have u:=b.b;generalize n++⟨#[58,32]⟩++v=G at *;go_wp2;go_ret2;exact⟨pc f rfl,b.below⟩
   . have r:=D;rw[if_neg q] at r;have N:decide ((n.size:Int) > 40)=F:=by rw[cz];omega
     have t2:decide (((n++⟨#[58,32]⟩++v).size:Int) > 200)=F:=by rw[cz,j];omega
     cases c:dP v.data.toList
     . rw[c] at l;have f:bO n.data.toList v.data.toList=([],3):=by have:=r;rw[if_pos (Or.inl c)] at this;exact this
       go_enter func229,ntmps229;go_wp2_with fail;refine(i _).mono ?_;rintro e g ⟨rfl,a⟩;have b:ov w n v g:=by rw[a];exact ov.e w n v _
       clear a;have u:=b.b;have S:=b.a;generalize n++⟨#[58,32]⟩++v=G at *;go_wp2_with fail;refine(l _).mono ?_;rintro e T ⟨rfl,a⟩;subst a;go_wp2;go_ret2;exact⟨pc f rfl,b.below⟩
     . rw[c] at l;by_cases d:Lib.trimS v.data.toList bX=v.data.toList
       . have f:Hid (bO n.data.toList v.data.toList=(n.data.toList++[58,32]++v.data.toList,0)):=by have:=r;rw[if_neg (by rw[c,d];simp)] at this;exact this
         rw[d] at m;have s:(⟨v.data.toList.toArray⟩:ae)=v:=rfl;rw[s] at m;clear  c d s;go_enter func229,ntmps229;go_wp2_with fail;refine(i _).mono ?_;rintro e g ⟨rfl,a⟩;have b:Hid (ov w n v g):=by rw[a];exact ov.e w n v _
         clear a;have u:=b.out.b;have S:=b.out.a;generalize n++⟨#[58,32]⟩++v=G at *;go_wp2_with fail;refine(l _).mono ?_;rintro e T ⟨rfl,a⟩;subst a;go_wp2;go_region_held3 (fun w'=>w'.cell? ⟨w.heap.size,1,U⟩=M (V v)) (go_keep) (first | (go_at_call 281;refine(m.o _).mono ?_;rintro e w5 ⟨rfl,k⟩;have t:=aa (b.out.j.f k);have H:=t.out.a;clear k))
         all_goals
          go_wp2;go_ret2;exact⟨pc f.o (by unfold lW;rw[<-C.o];rfl),t.out.below⟩
       . have f:bO n.data.toList v.data.toList=([],3):=by have:=r;rw[if_pos (Or.inr d)] at this;exact this
         have L:((⟨(Lib.trimS v.data.toList bX).toArray⟩:ae).toList==v.toList)=F:=by
          rw[Lib.toList_data,Lib.toList_data,aO];simpa using d
         clear  c d C;generalize (⟨(Lib.trimS v.data.toList bX).toArray⟩:ae)=tv at m L;go_enter func229,ntmps229;go_wp2_with fail;refine(i _).mono ?_;rintro e g ⟨rfl,a⟩;have b:ov w n v g:=by rw[a];exact ov.e w n v _
         clear a;have u:=b.b;have S:=b.a;generalize n++⟨#[58,32]⟩++v=G at *;go_wp2_with fail;refine(l _).mono ?_;rintro e T ⟨rfl,a⟩;subst a;go_wp2;go_region_held3 (fun w'=>w'.cell? ⟨w.heap.size,1,U⟩=M (V v)) (go_keep) (first | (go_at_call 281;refine(m.o _).mono ?_;rintro e w5 ⟨rfl,k⟩;have t:=aa (b.j.f k);have H:=t.out.a;clear k))
         all_goals
          go_wp2;go_ret2;exact⟨pc f rfl,t.out.below⟩
def uy:ae:=⟨#[72,111,115,116]⟩
def uA:ae:=⟨#[67,111,110,116,101,110,116,45,76,101,110,103,116,104]⟩
def uB:ae:=⟨#[84,114,97,110,115,102,101,114,45,69,110,99,111,100,105,110,103]⟩
theorem Eu (l:aC):aH uy l=aH gv l:=wB _ _ l (by decide)
theorem Ew (l:aC):aH uA l=aH gw l:=wB _ _ l (by decide)
theorem Ei (l:aC):aH uB l=aH gx l:=wB _ _ l (by decide)
theorem yy (l:aC)(a:ae)(ao:ag)(cap n:Nat)(w:X)(f:bx w ao cap n (aJ l))(g:l.length=n)(i:n<=1000000)(j:∀p∈l,p.1.size<=2000∧p.2.size<=2000)(b:a.size<=2000):
 Calls prog 277 #[Z ao n cap,V a] w fun e w'=>e=Y (I J ((aH a l).length:Int))∧Below w.heap.size w w':=by
 have c:=vP l a ao cap n w f g i j b;generalize (aH a l)=q at c ⊢;go_enter func277,ntmps277;go_wp2_with (go_at_call 263;refine c.mono ?_;rintro e r ⟨s,t,rfl,k,d⟩;have m:=aa d;clear k d)
 go_ret;exact⟨rfl,m.o⟩
theorem Oz (gh mi:Nat)(l:aC)(fo:ag)(fZ n:Nat)(w:X)(c2:w.cell? ⟨gh,2,U⟩=M (I J (mi:Int)))(c3:w.cell? ⟨gh,3,U⟩=M (Z fo n fZ))(hl:bx w fo fZ n (aJ l))(hn:l.length=n)(hN:n<=16)(hs:∀p∈l,p.1.size<=2000∧p.2.size<=2000):
 Calls prog 278 #[.pointer (M ⟨gh,0,U⟩)] w fun e w'=>e=Y (sg (oS mi (bU (aH gw l)) (bU (aH gx l))))∧Below w.heap.size w w':=by
 have C:=vP l uB fo fZ n w hl hn (by omega) hs (by decide);have D:=fun W (hW:Below w.heap.size w W)=>vP l uA fo fZ n W (hl.a hW) hn (by omega) hs (by decide);rw[Ei] at C;simp only[Ew] at D;have B:=fun W (hW:Below w.heap.size w W)=>And.intro ((hW.cell (ch w _ c2)).trans c2) ((hW.cell (ch w _ c3)).trans c3);have hm1:∀v∈aH gx l,v.size<=2000:=fun v hv=>by
  obtain⟨p,hp,rfl⟩:=wG hv;exact(hs p hp).2
 have hm2:∀v∈aH gw l,v.size<=2000:=fun v hv=>by
  obtain⟨p,hp,rfl⟩:=wG hv;exact(hs p hp).2
 have hv1:=wD gx l;have hv2:=wD gw l;generalize aH gx l=i at C hm1 hv1 ⊢;generalize aH gw l=m at D hm2 hv2 ⊢;have YL:=hm1;have MI:=aa hm2
 have hcl:i.length<=16:=by omega
 have hvl:m.length<=16:=by omega
 unfold uB at C;simp only[uA] at D;have T:oS mi (bU m) (bU i)=if bU i≠[] then (if bU m≠[]∨mi=0 then .inl 12 else if (bU i).length≠1∨aY ((bU i).headD [])≠uP then .inl 11 else .inr (-1)) else pI (bU m):=rfl
 generalize oS mi (bU m) (bU i)=aaT at T ⊢;have L:∀l:List ae,(bU l).length=l.length:=fun l=>by simp[bU]
 have N:∀l:List ae,bU l≠[]<->0<l.length:=fun l=>by rw[<-L l];exact List.length_pos_iff.symm
 by_cases hc0:i.length=0
 . have t0:((i.length:Int)==0)=true:=cJ.2 (by omega);have HS:=fun ao cap W h=>Jt m ao cap W h (by omega) MI.o;have t:aaT=pI (bU m):=by rw[T,if_neg (by rw[N];omega)]
   subst t;generalize pI (bU m)=aaT at HS ⊢;generalize i.length=nc at *;go_enter func278,ntmps278;go_wp2_with fail;refine C.mono ?_;rintro e q ⟨OJ,Aa,rfl,y,a⟩;have G:=y;have f:=aa a
   have u:=(B q a).2;go_wp2_with fail;refine(D q f.o).mono ?_;rintro e z ⟨jR,s,rfl,g,b⟩;have V7:=g.a;have j:=aa (G.a.a b);have d:=aa (au f.o b)
   have H:=(B z d.o).1;cases aaT with
   | inl c =>
     unfold sg at HS;go_wp2_with fail;refine(HS _ _ _ V7).mono ?_;rintro e w3 ⟨rfl,hw⟩;subst hw;go_wp2;go_ret2;exact⟨rfl,d.o⟩
   | inr k =>
     unfold sg at HS;go_wp2_with fail;refine(HS _ _ _ V7).mono ?_;rintro e w3 ⟨rfl,hw⟩;subst hw;go_wp2;go_ret2;exact⟨rfl,d.o⟩
 . have t0:((i.length:Int)==0)=F:=aO.2 (by omega);have t:=T;rw[if_pos ((N i).2 (by omega))] at t;by_cases hv0:0<m.length
   . have tv:decide ((m.length:Int) > 0)=true:=bq (by omega);rw[if_pos (Or.inl ((N m).2 hv0))] at t;subst t;go_enter func278,ntmps278;go_wp2_with fail;refine C.mono ?_;rintro e q ⟨OJ,Aa,rfl,y,a⟩;have G:=y;have f:=aa a
     have u:=(B q a).2;go_wp2_with fail;refine(D q f.o).mono ?_;rintro e z ⟨jR,s,rfl,g,b⟩;have V7:=g.a;have j:=aa (G.a.a b);have d:=aa (au f.o b)
     have H:=(B z d.o).1;go_wp2;go_ret2;exact⟨rfl,d.o⟩
   . have tv:decide ((m.length:Int) > 0)=F:=aX (by omega);by_cases hm0:mi=0
     . have tm:((mi:Int)==0)=true:=cJ.2 (by omega);rw[if_pos (Or.inr hm0)] at t;subst t;generalize m.length=nv at *;go_enter func278,ntmps278;go_wp2_with fail;refine C.mono ?_;rintro e q ⟨OJ,Aa,rfl,y,a⟩;have G:=y;have f:=aa a
       have u:=(B q a).2;go_wp2_with fail;refine(D q f.o).mono ?_;rintro e z ⟨jR,s,rfl,g,b⟩;have V7:=g.a;have j:=aa (G.a.a b);have d:=aa (au f.o b)
       have H:=(B z d.o).1;go_wp2;go_ret2;exact⟨rfl,d.o⟩
     . have tm:((mi:Int)==0)=F:=aO.2 (by omega);rw[if_neg (fun e=>by rcases e with e | e;exact hv0 ((N m).1 e);exact hm0 e)] at t;by_cases hc1:1<i.length
       . have t1:decide ((i.length:Int) > 1)=true:=bq (by omega);rw[if_pos (Or.inl (by rw[L];omega))] at t;subst t;generalize m.length=nv at *;go_enter func278,ntmps278;go_wp2_with fail;refine C.mono ?_;rintro e q ⟨OJ,Aa,rfl,y,a⟩;have G:=y;have f:=aa a
         have u:=(B q a).2;go_wp2_with fail;refine(D q f.o).mono ?_;rintro e z ⟨jR,s,rfl,g,b⟩;have V7:=g.a;have j:=aa (G.a.a b);have d:=aa (au f.o b)
         have H:=(B z d.o).1;go_wp2;go_ret2;exact⟨rfl,d.o⟩
       . have t1:decide ((i.length:Int) > 1)=F:=aX (by omega);have ad3:0<i.length:=by omega
         have hhd:(bU i).headD []=i[0].data.toList:=by
          cases i with
          | nil=>simp at ad3
          | cons v r=>rfl
         have ZY:=vW i 0 ad3;have hsz:=YL i[0] (eX ad3);rw[hhd,L] at t;generalize i[0]=x at *;have Az:=fun W=>rs x W (by unfold maxLen;omega);have hcp:(bU i).length=1:=by rw[L];omega
         by_cases S:aY x.data.toList=uP
         . rw[if_neg (fun e=>by rcases e with e | e;exact e (by omega);exact e S)] at t;subst t;rw[S] at Az;generalize m.length=nv at *;go_enter func278,ntmps278;go_wp2_with fail;refine C.mono ?_;rintro e q ⟨OJ,Aa,rfl,y,a⟩;have G:=y;have f:=aa a
           have u:=(B q a).2;clear y a;go_wp2_with fail;refine(D q f.o).mono ?_;rintro e z ⟨jR,s,rfl,g,b⟩;have V7:=aa g.a;have j:=aa (G.a.a b);have d:=aa (au f.o b)
           have H:=(B z d.o).1;clear g b u c3 C D;obtain⟨bb,oo,rfl,hcc⟩:=j.o.f (by rw[vG];omega);have x0:z.cell? ⟨bb,oo,U⟩=M (V x):=by have:=hcc 0 _ ZY;simpa using this
           have hcap:=j.o.1;go_wp2_with fail;refine(Az _).mono ?_;rintro e w3 ⟨rfl,hb3⟩;have HB3:=au d.o hb3;go_wp2;go_ret2;exact⟨rfl,HB3⟩
         . rw[if_pos (Or.inr S)] at t;subst t;have hne:((⟨(aY x.data.toList).toArray⟩:ae).toList==[99,104,117,110,107,101,100])=F:=by
            rw[Lib.toList_data,aO];exact S
           generalize (⟨(aY x.data.toList).toArray⟩:ae)=lx at Az hne;generalize m.length=nv at *;go_enter func278,ntmps278;go_wp2_with fail;refine C.mono ?_;rintro e q ⟨OJ,Aa,rfl,y,a⟩;have G:=y;have f:=aa a
           have u:=(B q a).2;clear y a;go_wp2_with fail;refine(D q f.o).mono ?_;rintro e z ⟨jR,s,rfl,g,b⟩;have V7:=aa g.a;have j:=aa (G.a.a b);have d:=aa (au f.o b)
           have H:=(B z d.o).1;clear g b u c3 C D;obtain⟨bb,oo,rfl,hcc⟩:=j.o.f (by rw[vG];omega);have x0:z.cell? ⟨bb,oo,U⟩=M (V x):=by have:=hcc 0 _ ZY;simpa using this
           have hcap:=j.o.1;go_wp2_with fail;refine(Az _).mono ?_;rintro e w3 ⟨rfl,hb3⟩;have HB3:=au d.o hb3;go_wp2;go_ret2;exact⟨rfl,HB3⟩
