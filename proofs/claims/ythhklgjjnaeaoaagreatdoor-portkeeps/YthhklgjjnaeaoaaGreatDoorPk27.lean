/- Small texts, one behind the other: FdParse, FdBox, FdAll, FdOne, FdText, RqLen. -/
import Derived.Deep.RegionHeld3
import Derived.Test.YthhklgjjnaeaoaaGreatDoorPk20
import Derived.Test.YthhklgjjnaeaoaaGreatDoorRqNum
open Go.Value renaming int->I,string->V,slice->Z
open Go.IntKind renaming i64->J
open Go.Ending renaming returned->Y
open Option renaming none->U,some->M
open Bool renaming false->F
open Go renaming World->X
set_option maxHeartbeats 2000000
set_option maxRecDepth 100000
open Go.Proofs.Tryz
namespace Go.Proofs.YthhklgjjnaeaoaaGreatDoor
open Go.RowKit
structure nY (w W:X):Prop where
 c0:W.cell? ⟨w.heap.size,0,U⟩=M (V ⟨#[]⟩)
 c1:W.cell? ⟨w.heap.size,1,U⟩=M (V ⟨#[]⟩)
 f0:W.frozen? ⟨w.heap.size,0,U⟩=F
 f1:W.frozen? ⟨w.heap.size,1,U⟩=F
 below:Below w.heap.size w W
 lt:w.heap.size<W.heap.size
theorem nY.made (w:X)(t:Nat):nY w (w.alloc (.cells #[V ⟨#[]⟩,V ⟨#[]⟩] t)) :=
 ⟨World.cell?_alloc_mark w _ _ _ 0,World.cell?_alloc_mark w _ _ _ 1,World.frozen?_alloc_mark w _ _ _ _ 0,World.frozen?_alloc_mark w _ _ _ _ 1,(eY _ _).alloc (aM _) _,by simp⟩
theorem nY.stay {w W W':X}(h:nY w W)(a:Below W.heap.size W W'):nY w W' :=
 ⟨(a.cell (p:=⟨w.heap.size,0,U⟩) h.lt).trans h.c0,(a.cell (p:=⟨w.heap.size,1,U⟩) h.lt).trans h.c1,(a.frozen (p:=⟨w.heap.size,0,U⟩) h.lt).trans h.f0,(a.frozen (p:=⟨w.heap.size,1,U⟩) h.lt).trans h.f1,then_ h.below a,bZ h.lt a.size⟩
theorem nY.drewN {w W:X}(h:nY w W)(n:Nat):nY w (W.drewN n):=h.stay (iZ ⟨n,rfl⟩)
theorem wT (s:ay)(w:X)(hs:s.size<=2000):
 Calls prog 237 #[V s] w fun e w'=>e=Y (Fd.val (Fd.of s.data.toList))∧Below w.heap.size w w':=by
 have d:=fun W=>wQ s 58 W (by unfold maxLen;omega);have H:s.data.toList.length=s.size:=by rw[aO];rfl
 have g:=H9 (Fd.YS s.data.toList);rw[H] at g;unfold Fd.cutV at d;by_cases u:Fd.at_ 58 s.data.toList=s.size
 . rw[if_pos u] at d;have r:Fd.of s.data.toList=Fd.bad 5:=by have:=g.o;rw[if_pos u] at this;exact this
   clear g u H;go_enter func237,ntmps237;go_wp2_with fail
   refine(d _).mono ?_;rintro e i ⟨rfl,n,b⟩;have f:nY w i:=by rw[b];exact(nY.made w _).drewN n
   clear b d;go_wp2_with fail
   refine(sN ⟨#[]⟩ i (by decide)).mono ?_;rintro e L ⟨rfl,a⟩;have c:=f.stay a;have j:=c.c0;have l:=c.c1;have N:=c.f0;have S:=c.f1
   clear f a;go_wp2;refine fI (v:=.tuple #[.agg #[V ⟨#[]⟩,V ⟨#[]⟩],I J 5]) (by simp[results,results237,go_sem,j,l]) rfl ⟨by rw[r];rfl,?_⟩;exact(c.below.setCell (aM _) _).setCell (aM _) _
 . rw[if_neg u] at d;have hk:=Fd.adg 58 s.data.toList;rw[H] at hk;have p:=g.o;rw[if_neg u] at p;have hlt:Fd.at_ 58 s.data.toList<s.size:=by omega
   clear g u H hk;generalize Fd.at_ 58 s.data.toList=k at d p hlt;have e1:(s.extract 0 k).data.toList=s.data.toList.take k:=by rw[Lib.extract_data];simp
   have e2:=Lib.extract_to_end s (k+1);rw[<-e1,<-e2] at p;have z1:(s.extract 0 k).size=k:=by simp;omega
   have z2:(s.extract (k+1) s.size).size<=2000:=by simp;omega
   have t:=fun W=>rA (s.extract 0 k) W (by rw[z1];unfold maxLen;omega);have m:=H9 (fun W=>sN (s.extract (k+1) s.size) W (dB z2 (by decide)));have uT:=fun W=>kW (s.extract 0 k) W (by omega);have x:(⟨(Lib.trimS (s.extract (k+1) s.size).data.toList Ch.ws).toArray⟩:ay).size<=maxLen:=by
    have p:=yO (s.extract (k+1) s.size).data.toList;rw[Ch.iK] at p;show(Lib.trimS _ Ch.ws).toArray.size<=maxLen;rw[bK];unfold maxLen;omega
   have q:=H9 (fun W=>kJ ⟨(Lib.trimS (s.extract (k+1) s.size).data.toList Ch.ws).toArray⟩ W x);clear e1 e2 z2 x;generalize s.extract (k+1) s.size=rest at d m q p;have y:(⟨(Lib.trimS rest.data.toList Ch.ws).toArray⟩:ay).data.toList=Lib.trimS rest.data.toList Ch.ws:=rfl;rw[y] at q;generalize s.extract 0 k=T at d t uT p z1;have g:=H9 p;generalize Lib.trimS rest.data.toList Ch.ws=tv at m q g;cases z:Ch.isToken T.data.toList
   . rw[z] at t;have r:Fd.of s.data.toList=Fd.bad 6:=by have:=g.o;rw[if_pos z] at this;exact this
     go_enter func237,ntmps237;go_wp2_with fail
     refine(d _).mono ?_;rintro e i ⟨rfl,n,b⟩;have f:nY w i:=by rw[b];exact(nY.made w _).drewN n
     clear b d;go_wp2_with fail
     refine(m.o _).mono ?_;rintro e L ⟨rfl,a⟩;have c:=f.stay a;have j:=c.c0;have l:=c.c1;have N:=c.f0;have S:=c.f1
     clear f a m;go_wp2_with fail
     refine(t _).mono ?_;rintro e w3 ⟨rfl,b⟩;subst b;go_wp2;refine fI (v:=.tuple #[.agg #[V ⟨#[]⟩,V ⟨#[]⟩],I J 6]) (by simp[results,results237,go_sem,j,l]) rfl ⟨by rw[r];rfl,?_⟩;exact(c.below.setCell (aM _) _).setCell (aM _) _
   . rw[z] at t;have h6:=g.o;rw[if_neg (by rw[z];simp)] at h6;clear g z;by_cases B:40<k
     . have r:Fd.of s.data.toList=Fd.bad 4:=by have:=h6;rw[if_pos B] at this;exact this
       have t40:decide ((T.size:Int) > 40)=true:=by rw[bP];omega
       clear  q uT;go_enter func237,ntmps237;go_wp2_with fail
       refine(d _).mono ?_;rintro e i ⟨rfl,n,b⟩;have f:nY w i:=by rw[b];exact(nY.made w _).drewN n
       clear b d;go_wp2_with fail
       refine(m.o _).mono ?_;rintro e L ⟨rfl,a⟩;have c:=f.stay a;have j:=c.c0;have l:=c.c1;have N:=c.f0;have S:=c.f1
       go_wp2_with fail
       refine(t _).mono ?_;rintro e w3 ⟨rfl,b⟩;subst b;go_wp2;refine fI (v:=.tuple #[.agg #[V ⟨#[]⟩,V ⟨#[]⟩],I J 4]) (by simp[results,results237,go_sem,j,l]) rfl ⟨by rw[r];rfl,?_⟩;exact(c.below.setCell (aM _) _).setCell (aM _) _
     . have h4:=h6;rw[if_neg B] at h4;have t40:decide ((T.size:Int) > 40)=F:=by rw[bO];omega
       cases C:Ch.gV tv
       . rw[C] at q;have r:Fd.of s.data.toList=Fd.bad 3:=by have:=h4;rw[if_pos C] at this;exact this
         go_enter func237,ntmps237;go_wp2_with fail
         refine(d _).mono ?_;rintro e i ⟨rfl,n,b⟩;have f:nY w i:=by rw[b];exact(nY.made w _).drewN n
         clear b d;go_wp2_with fail
         refine(m.o _).mono ?_;rintro e L ⟨rfl,a⟩;have c:=f.stay a;have j:=c.c0;have l:=c.c1;have N:=c.f0;have S:=c.f1
         clear f a m;go_wp2_with fail
         refine(t _).mono ?_;rintro e w3 ⟨rfl,b⟩;subst b;go_wp2_with fail
         refine(q.o _).mono ?_;rintro e w4 ⟨rfl,b⟩;subst b;go_wp2;refine fI (v:=.tuple #[.agg #[V ⟨#[]⟩,V ⟨#[]⟩],I J 3]) (by simp[results,results237,go_sem,j,l]) rfl ⟨by rw[r];rfl,?_⟩;exact(c.below.setCell (aM _) _).setCell (aM _) _
       . rw[C] at q;have h3:=h4;rw[if_neg (by rw[C];simp)] at h3;clear  C ;go_enter func237,ntmps237;go_wp2_with fail
         refine(d _).mono ?_;rintro e i ⟨rfl,n,b⟩;have f:nY w i:=by rw[b];exact(nY.made w _).drewN n
         clear b d;go_wp2_with fail
         refine(m.o _).mono ?_;rintro e L ⟨rfl,a⟩;have c:=f.stay a;clear f a m;go_wp2_with fail
         refine(t _).mono ?_;rintro e w3 ⟨rfl,b⟩;subst b;go_wp2_with fail
         refine(q.o _).mono ?_;rintro e w4 ⟨rfl,b⟩;subst b;go_wp2_with fail
         refine(uT _).mono ?_;rintro e w5 ⟨rfl,D⟩;have G:=c.stay D;have j:=G.c0;have l:=G.c1;have N:=G.f0;have S:=G.f1
         clear c D;go_wp2;refine fI (v:=.tuple #[.agg #[V T,V ⟨tv.toArray⟩],I J 0]) (by simp[results,results237,go_sem,j,l]) rfl ⟨by rw[h3];rfl,?_⟩;exact(G.below.setCell (aM _) _).setCell (aM _) _
structure nK (w:X)(n v:ay)(W:X):Prop where
 c0:W.cell? ⟨w.heap.size,0,U⟩=M (V n)
 c1:W.cell? ⟨w.heap.size,1,U⟩=M (V v)
 below:Below w.heap.size w W
 lt:w.heap.size<W.heap.size
theorem nK.made (w:X)(n v:ay)(t:Nat):nK w n v (w.alloc (.cells #[V n,V v] t)) :=
 ⟨World.cell?_alloc_mark w _ _ _ 0,World.cell?_alloc_mark w _ _ _ 1,(eY _ _).alloc (aM _) _,by simp⟩
theorem nK.stay {w W W':X}{n v:ay}(h:nK w n v W)(a:Below W.heap.size W W'):nK w n v W' :=
 ⟨(a.cell (p:=⟨w.heap.size,0,U⟩) h.lt).trans h.c0,(a.cell (p:=⟨w.heap.size,1,U⟩) h.lt).trans h.c1,then_ h.below a,bZ h.lt a.size⟩
theorem nK.drew {w W:X}{n v:ay}(h:nK w n v W):nK w n v W.drew:=h.stay (gy _ _)
theorem sS (l:au)(a:ay)(ao:ak)(cap n:Nat)(w:X)(hl:ji w ao cap n (gG l))(hn:l.length=n)(hN:n<=1000000)(hs:∀p∈l,p.1.size<=2000∧p.2.size<=2000)(hnm:a.size<=2000):
 Calls prog 219 #[Z ao n cap,V a] w fun e w'=>∃gJ b,e=Y (Z gJ (Fd.vals a l).length b)∧gH w' w.heap.size 9 1 gJ b (Fd.vals a l).length (BO (Fd.vals a l))∧Below w.heap.size w w':=by
 subst hn;obtain⟨i0,G,H,L,N⟩:=info_parts V4;have Hi:=G;have kY:=H9 H;have kT:=H9 L;have kZ:=H9 N
 have m:=oF a w (by unfold maxLen;omega);have HX:∀p:ay,((⟨(Ch.lower p.data.toList).toArray⟩:ay).toList==(⟨(Ch.lower a.data.toList).toArray⟩:ay).toList)=decide (Ch.lower p.data.toList=Ch.lower a.data.toList):=by
  intro p;rw[Lib.toList_data,Lib.toList_data,aH];simp
 generalize (⟨(Ch.lower a.data.toList).toArray⟩:ay)=sn at m HX;go_enter func219,ntmps219;go_wp2_with fail
 refine m.mono ?_;rintro e w0 ⟨rfl,S⟩;go_wp2;go_loopw [6,13] (fun v t wr=>∃(k:Nat) (gJ:ak) (b:Nat),k<=l.length∧t=I J k∧v=Z gJ (Fd.vals a (l.take k)).length b∧gH wr w.heap.size 9 1 gJ b (Fd.vals a (l.take k)).length (BO (Fd.vals a (l.take k)))∧Below w.heap.size w wr) (fun _ t _=>l.length-(intOf t).toNat)
 case atStart=>exact⟨0,U,0,aA _,rfl,rfl,gH.nil _ _ _ _,S⟩
 case round =>
  obtain⟨k,gJ,b,hk,rfl,rfl,hO,hB⟩:=hrel;have B:=hO;have r:=H9 hB
  have T:=Fd.rz a (l.take k);have hvk:(l.take k).length<=k:=List.length_take_le _ _;by_cases c:k<l.length
  . have hpl:0<(gG l).length:=by rw[mF];omega
    obtain⟨bb,oo,rfl,s⟩:=hl.lit hpl;have x:=s _ _ (mQ l k c).1;have h2:=s _ _ (mQ l k c).2;rw[<-bJ] at h2;have hc0:=(r.o.cell (fH w _ x)).trans x;have hc1:=(r.o.cell (fH w _ h2)).trans h2;have HT:l.take (k+1)=l.take k++[l[k]]:=bM c;have hp1:=hs l[k] (aC c);have g:=fun W=>oF l[k].1 W (by unfold maxLen;omega);have uT:=fun W=>kW l[k].2 W (by have:=hp1.2;omega);have hlt':(k:Int)<l.length:=by omega
    have C:=Fd.RL a (l.take k) l[k];rw[<-HT] at C;generalize l[k]=p at *;have wV:=HX p.1;generalize (⟨(Ch.lower p.1.data.toList).toArray⟩:ay)=sp at g wV;generalize Fd.vals a (l.take k)=vs at B C T;by_cases d:Ch.lower p.1.data.toList=Ch.lower a.data.toList
    . have hx:=wV;rw[aI d] at hx;have D:Fd.vals a (l.take (k+1))=vs++[p.2]:=by have:=C;rw[if_pos d] at this;exact this
      go_wp2_with fail
      refine(g _).mono ?_;rintro e w1 ⟨rfl,i⟩;have j:=(nK.made wr p.1 p.2 _).stay i;have B1:=then_ r.o j.below;have O1:=B.stay j.below;have c1:=j.c1;go_wp2_with fail
      refine(uT _).mono ?_;rintro e w2 ⟨rfl,z⟩;have f:=then_ B1 z;have IJ:=O1.stay z;go_wp2_with (at_builtin;refine gP rfl (.tmp 22) (.tmp 26) 158 rfl w.heap.size 9 i0 (V ⟨#[]⟩) 1 16 underlying158 Hi kY.o kT.o kZ.o rfl (by decide) rfl (IJ.alloc _) rfl (ji.made _ _ 1 _ _) rfl (fun u hu=>by simp at hu;subst hu;rfl) (by omega) (by omega) (by have:=f.size;simp;omega) ?_;intro kI gZ w3 hO3 hG3 _)
      go_roundw
      case rel =>
       have e1:=D;refine⟨k+1,kI,gZ,by omega,by go_num,by rw[e1,aV];rfl,?_,?_⟩
       . rw[e1,aV,JX];exact hO3
       . exact(f.alloc f.size _).grown hG3 (by have:=f.size;simp;omega) (fun q e=>by
          cases gJ with
          | none=>simp[fV] at e
          | some y=>simp only[fV,bS] at e;have:=(IJ.block y rfl).1;omega)
      case measure=>simp[intOf];omega
    . have hx:=wV;rw[aJ d] at hx;have D:Fd.vals a (l.take (k+1))=vs:=by have:=C;rw[if_neg d] at this;exact this
      go_wp2_with fail
      refine(g _).mono ?_;rintro e w1 ⟨rfl,i⟩;have j:=(nK.made wr p.1 p.2 _).stay i;have B1:=then_ r.o j.below;have O1:=B.stay j.below;go_wp2;go_roundw
      case rel=>exact⟨k+1,gJ,b,by omega,by go_num,by rw[D],by rw[D];exact O1,B1⟩
      case measure=>simp[intOf];omega
  . obtain rfl:k=l.length:=by omega
    go_wp2;go_ret;have e:l.take l.length=l:=bN;have x:=B;rw[e] at x;exact⟨gJ,b,by rw[e];rfl,x,r.o⟩
theorem sU (l:au)(a:ay)(ao:ak)(cap n:Nat)(w:X)(y:ji w ao cap n (gG l))(r:l.length=n)(z:n<=1000000)(B:∀p∈l,p.1.size<=2000∧p.2.size<=2000)(j:a.size<=2000):
 Calls prog 168 #[Z ao n cap,V a] w fun e w'=>e=Y (sM (Fd.one (Fd.vals a l)))∧Below w.heap.size w w':=by
 have g:=sS l a ao cap n w y r z B j;have b:=Fd.rz a l;rw[r] at b;generalize Fd.vals a l=k at g b;rcases k with _ | ⟨v,_ | ⟨i,t⟩⟩
 . go_enter func168,ntmps168;go_wp2_with fail
   refine g.mono ?_;rintro e s ⟨u,x,rfl,c,d⟩;have m:=c;have f:=H9 d
   go_wp2;go_ret2;exact⟨uf (p:=([],10)) rfl rfl,f.o⟩
 . go_enter func168,ntmps168;go_wp2_with fail
   refine g.mono ?_;rintro e s ⟨u,x,rfl,c,d⟩;have m:=c;have f:=H9 d
   obtain⟨G,H,rfl,q⟩:=m.qE.lit (by simp[BO]);have C:=q 0 (V v) rfl;rw[bI] at C;go_wp2;go_ret2;exact⟨uf (p:=(v.data.toList,0)) rfl rfl,f.o⟩
 . have N:(((v::i::t).length:Int)==0)=F:=by rw[aR,aW,aW];omega
   have S:(((v::i::t).length:Int)==1)=F:=by rw[aR,aW,aW];omega
   have D:Fd.one (v::i::t)=([],9):=rfl;generalize v::i::t=k at *;generalize k.length=L at *;go_enter func168,ntmps168;go_wp2_with fail
   refine g.mono ?_;rintro e s ⟨u,x,rfl,c,d⟩;have m:=c;have f:=H9 d
   go_wp2;go_ret2;exact⟨uf (p:=([],9)) D rfl,f.o⟩
theorem KV (n v:ay)(w:X)(hn:n.size<=100000)(hv:v.size<=100000):
 Calls prog 191 #[.agg #[V n,V v]] w fun e w'=>e=Y (sM (Fd.text n.data.toList v.data.toList))∧Below w.heap.size w w':=by
 have i:=fun W=>rA n W (by unfold maxLen;omega);have l:=fun W=>kJ v W (by unfold maxLen;omega);have m:=H9 (fun W=>sN v W (by omega));have x:n.data.toList.length=n.size:=by rw[aO];rfl
 have y:v.data.toList.length=v.size:=by rw[aO];rfl
 have z:Fd.text n.data.toList v.data.toList=if Ch.isToken n.data.toList=F then ([],6) else if 40<n.size∨200<n.size+2+v.size then ([],4) else if Ch.gV v.data.toList=F∨Lib.trimS v.data.toList Ch.ws≠v.data.toList then ([],3) else (n.data.toList++[58,32]++v.data.toList,0):=by
  unfold Fd.text;rw[x,y]
 have B:=H9 z;have j:(n++⟨#[58,32]⟩++v).size=n.size+2+v.size:=by simp[ByteArray.size_append];rfl
 have C:Hid (n++⟨#[58,32]⟩++v=⟨(n.data.toList++[58,32]++v.data.toList).toArray⟩):=Ch.str_eq (by rw[Ch.data_append,Ch.data_append]);cases p:Ch.isToken n.data.toList
 . rw[p] at i;have f:Fd.text n.data.toList v.data.toList=([],6):=by have:=B.o;rw[if_pos p] at this;exact this
   clear B p l m C;go_enter func191,ntmps191;go_wp2_with fail
   refine(i _).mono ?_;rintro e g ⟨rfl,a⟩;have k:=RG ⟨0,a⟩;clear a;go_wp2;go_ret2;exact⟨uf f rfl,k⟩
 . rw[p] at i;have D:=B.o;rw[if_neg (by rw[p];simp)] at D;by_cases q:40<n.size∨200<n.size+2+v.size
   . have f:Fd.text n.data.toList v.data.toList=([],4):=by have:=D;rw[if_pos q] at this;exact this
     by_cases r:40<n.size
     . have N:decide ((n.size:Int) > 40)=true:=by rw[bP];omega
       go_enter func191,ntmps191;go_wp2_with fail
       refine(i _).mono ?_;rintro e g ⟨rfl,a⟩;have b:nK w n v g:=by rw[a];exact nK.made w n v _
       clear a;have u:=b.c0;go_wp2;go_ret2;exact⟨uf f rfl,b.below⟩
     . have N:decide ((n.size:Int) > 40)=F:=by rw[bO];omega
       have t2:decide (((n++⟨#[58,32]⟩++v).size:Int) > 200)=true:=by rw[bP,j];omega
       clear j;go_enter func191,ntmps191;go_wp2_with fail
       refine(i _).mono ?_;rintro e g ⟨rfl,a⟩;have b:nK w n v g:=by rw[a];exact nK.made w n v _
       clear a;have u:=b.c0;generalize n++⟨#[58,32]⟩++v=G at *;go_wp2;go_ret2;exact⟨uf f rfl,b.below⟩
   . have r:=D;rw[if_neg q] at r;have N:decide ((n.size:Int) > 40)=F:=by rw[bO];omega
     have t2:decide (((n++⟨#[58,32]⟩++v).size:Int) > 200)=F:=by rw[bO,j];omega
     cases c:Ch.gV v.data.toList
     . rw[c] at l;have f:Fd.text n.data.toList v.data.toList=([],3):=by have:=r;rw[if_pos (Or.inl c)] at this;exact this
       go_enter func191,ntmps191;go_wp2_with fail
       refine(i _).mono ?_;rintro e g ⟨rfl,a⟩;have b:nK w n v g:=by rw[a];exact nK.made w n v _
       clear a;have u:=b.c0;have S:=b.c1;generalize n++⟨#[58,32]⟩++v=G at *;go_wp2_with fail
       refine(l _).mono ?_;rintro e T ⟨rfl,a⟩;subst a;go_wp2;go_ret2;exact⟨uf f rfl,b.below⟩
     . rw[c] at l;by_cases d:Lib.trimS v.data.toList Ch.ws=v.data.toList
       . have f:Hid (Fd.text n.data.toList v.data.toList=(n.data.toList++[58,32]++v.data.toList,0)):=by have:=r;rw[if_neg (by rw[c,d];simp)] at this;exact this
         rw[d] at m;have s:(⟨v.data.toList.toArray⟩:ay)=v:=rfl;rw[s] at m;clear  c d s;go_enter func191,ntmps191;go_wp2_with fail
         refine(i _).mono ?_;rintro e g ⟨rfl,a⟩;have b:Hid (nK w n v g):=by rw[a];exact nK.made w n v _
         clear a;have u:=b.out.c0;have S:=b.out.c1;generalize n++⟨#[58,32]⟩++v=G at *;go_wp2_with fail
         refine(l _).mono ?_;rintro e T ⟨rfl,a⟩;subst a;go_wp2;go_region_held3 (fun w'=>w'.cell? ⟨w.heap.size,1,U⟩=M (V v)) (go_keep) (first | (go_at_call 239;refine(m.o _).mono ?_;rintro e w5 ⟨rfl,k⟩;have t:=H9 (b.out.drew.stay k);have H:=t.out.c1;clear k))
         all_goals
          go_wp2;go_ret2;exact⟨uf f.o (by unfold sM;rw[<-C.o];rfl),t.out.below⟩
       . have f:Fd.text n.data.toList v.data.toList=([],3):=by have:=r;rw[if_pos (Or.inr d)] at this;exact this
         have L:((⟨(Lib.trimS v.data.toList Ch.ws).toArray⟩:ay).toList==v.toList)=F:=by
          rw[Lib.toList_data,Lib.toList_data,aR];simpa using d
         clear  c d C;generalize (⟨(Lib.trimS v.data.toList Ch.ws).toArray⟩:ay)=tv at m L;go_enter func191,ntmps191;go_wp2_with fail
         refine(i _).mono ?_;rintro e g ⟨rfl,a⟩;have b:nK w n v g:=by rw[a];exact nK.made w n v _
         clear a;have u:=b.c0;have S:=b.c1;generalize n++⟨#[58,32]⟩++v=G at *;go_wp2_with fail
         refine(l _).mono ?_;rintro e T ⟨rfl,a⟩;subst a;go_wp2;go_region_held3 (fun w'=>w'.cell? ⟨w.heap.size,1,U⟩=M (V v)) (go_keep) (first | (go_at_call 239;refine(m.o _).mono ?_;rintro e w5 ⟨rfl,k⟩;have t:=H9 (b.drew.stay k);have H:=t.out.c1;clear k))
         all_goals
          go_wp2;go_ret2;exact⟨uf f rfl,t.out.below⟩
def LX:ay:=⟨#[72,111,115,116]⟩
def LZ:ay:=⟨#[67,111,110,116,101,110,116,45,76,101,110,103,116,104]⟩
def L6:ay:=⟨#[84,114,97,110,115,102,101,114,45,69,110,99,111,100,105,110,103]⟩
theorem GY (l:au):Fd.vals LX l=Fd.vals lV l:=Fd.kQ _ _ l (by decide)
theorem GZ (l:au):Fd.vals LZ l=Fd.vals lW l:=Fd.kQ _ _ l (by decide)
theorem G5 (l:au):Fd.vals L6 l=Fd.vals lX l:=Fd.kQ _ _ l (by decide)
theorem xq (l:au)(a:ay)(ao:ak)(cap n:Nat)(w:X)(f:ji w ao cap n (gG l))(g:l.length=n)(i:n<=1000000)(j:∀p∈l,p.1.size<=2000∧p.2.size<=2000)(b:a.size<=2000):
 Calls prog 235 #[Z ao n cap,V a] w fun e w'=>e=Y (I J ((Fd.vals a l).length:Int))∧Below w.heap.size w w':=by
 have c:=sS l a ao cap n w f g i j b;generalize (Fd.vals a l)=q at c ⊢;go_enter func235,ntmps235;go_wp2_with (go_at_call 219;refine c.mono ?_;rintro e r ⟨s,t,rfl,k,d⟩;have m:=H9 d;clear k d)
 go_ret;exact⟨rfl,m.o⟩
theorem O6 (gh mi:Nat)(l:au)(fo:ak)(fZ n:Nat)(w:X)(c2:w.cell? ⟨gh,2,U⟩=M (I J (mi:Int)))(c3:w.cell? ⟨gh,3,U⟩=M (Z fo n fZ))(hl:ji w fo fZ n (gG l))(hn:l.length=n)(hN:n<=16)(hs:∀p∈l,p.1.size<=2000∧p.2.size<=2000):
 Calls prog 236 #[.pointer (M ⟨gh,0,U⟩)] w fun e w'=>e=Y (Rq.lenVal (Rq.ze mi (Rq.lists (Fd.vals lW l)) (Rq.lists (Fd.vals lX l))))∧Below w.heap.size w w':=by
 have B:=sS l L6 fo fZ n w hl hn (by omega) hs (by decide);have C:=fun W (hW:Below w.heap.size w W)=>sS l LZ fo fZ n W (hl.stay hW) hn (by omega) hs (by decide);rw[G5] at B;simp only[GZ] at C;have z:=fun W (hW:Below w.heap.size w W)=>And.intro ((hW.cell (fH w _ c2)).trans c2) ((hW.cell (fH w _ c3)).trans c3);have hm1:∀v∈Fd.vals lX l,v.size<=2000:=fun v hv=>by
  obtain⟨p,hp,rfl⟩:=Fd.za hv;exact(hs p hp).2
 have hm2:∀v∈Fd.vals lW l,v.size<=2000:=fun v hv=>by
  obtain⟨p,hp,rfl⟩:=Fd.za hv;exact(hs p hp).2
 have hv1:=Fd.rz lX l;have hv2:=Fd.rz lW l;generalize Fd.vals lX l=i at B hm1 hv1 ⊢;generalize Fd.vals lW l=j at C hm2 hv2 ⊢;have Xk:=hm1;have HM2:=H9 hm2
 have hcl:i.length<=16:=by omega
 have hvl:j.length<=16:=by omega
 unfold L6 at B;simp only[LZ] at C;have T:Rq.ze mi (Rq.lists j) (Rq.lists i)=if Rq.lists i≠[] then (if Rq.lists j≠[]∨mi=0 then .inl 12 else if (Rq.lists i).length≠1∨Ch.lower ((Rq.lists i).headD [])≠Rq.vw then .inl 11 else .inr (-1)) else Rq.rC (Rq.lists j):=rfl
 generalize Rq.ze mi (Rq.lists j) (Rq.lists i)=aaj at T ⊢;have H:∀l:List ay,(Rq.lists l).length=l.length:=fun l=>by simp[Rq.lists]
 have L:∀l:List ay,Rq.lists l≠[]<->0<l.length:=fun l=>by rw[<-H l];exact List.length_pos_iff.symm
 by_cases hc0:i.length=0
 . have t0:((i.length:Int)==0)=true:=aS.2 (by omega);have HS:=fun ao cap W h=>EC j ao cap W h (by omega) HM2.o;have s:aaj=Rq.rC (Rq.lists j):=by rw[T,if_neg (by rw[L];omega)]
   subst s;generalize Rq.rC (Rq.lists j)=aaj at HS ⊢;generalize i.length=nc at *;go_enter func236,ntmps236;go_wp2_with fail
   refine B.mono ?_;rintro e m ⟨Qr,zu,rfl,u,a⟩;have D:=u;have f:=H9 a
   have t:=(z m a).2;go_wp2_with fail
   refine(C m f.o).mono ?_;rintro e y ⟨jZ,q,rfl,g,b⟩;have UC:=g.qE;have N:=H9 (D.qE.stay b);have d:=H9 (then_ f.o b)
   have G:=(z y d.o).1;cases aaj with
   | inl c =>
     unfold Rq.lenVal at HS;go_wp2_with fail
     refine(HS _ _ _ UC).mono ?_;rintro e w3 ⟨rfl,hw⟩;subst hw;go_wp2;go_ret2;exact⟨rfl,d.o⟩
   | inr k =>
     unfold Rq.lenVal at HS;go_wp2_with fail
     refine(HS _ _ _ UC).mono ?_;rintro e w3 ⟨rfl,hw⟩;subst hw;go_wp2;go_ret2;exact⟨rfl,d.o⟩
 . have t0:((i.length:Int)==0)=F:=aR.2 (by omega);have s:=T;rw[if_pos ((L i).2 (by omega))] at s;by_cases hv0:0<j.length
   . have tv:decide ((j.length:Int) > 0)=true:=aI (by omega);rw[if_pos (Or.inl ((L j).2 hv0))] at s;subst s;go_enter func236,ntmps236;go_wp2_with fail
     refine B.mono ?_;rintro e m ⟨Qr,zu,rfl,u,a⟩;have D:=u;have f:=H9 a
     have t:=(z m a).2;go_wp2_with fail
     refine(C m f.o).mono ?_;rintro e y ⟨jZ,q,rfl,g,b⟩;have UC:=g.qE;have N:=H9 (D.qE.stay b);have d:=H9 (then_ f.o b)
     have G:=(z y d.o).1;go_wp2;go_ret2;exact⟨rfl,d.o⟩
   . have tv:decide ((j.length:Int) > 0)=F:=aJ (by omega);by_cases hm0:mi=0
     . have tm:((mi:Int)==0)=true:=aS.2 (by omega);rw[if_pos (Or.inr hm0)] at s;subst s;generalize j.length=nv at *;go_enter func236,ntmps236;go_wp2_with fail
       refine B.mono ?_;rintro e m ⟨Qr,zu,rfl,u,a⟩;have D:=u;have f:=H9 a
       have t:=(z m a).2;go_wp2_with fail
       refine(C m f.o).mono ?_;rintro e y ⟨jZ,q,rfl,g,b⟩;have UC:=g.qE;have N:=H9 (D.qE.stay b);have d:=H9 (then_ f.o b)
       have G:=(z y d.o).1;go_wp2;go_ret2;exact⟨rfl,d.o⟩
     . have tm:((mi:Int)==0)=F:=aR.2 (by omega);rw[if_neg (fun e=>by rcases e with e | e;exact hv0 ((L j).1 e);exact hm0 e)] at s;by_cases hc1:1<i.length
       . have t1:decide ((i.length:Int) > 1)=true:=aI (by omega);rw[if_pos (Or.inl (by rw[H];omega))] at s;subst s;generalize j.length=nv at *;go_enter func236,ntmps236;go_wp2_with fail
         refine B.mono ?_;rintro e m ⟨Qr,zu,rfl,u,a⟩;have D:=u;have f:=H9 a
         have t:=(z m a).2;go_wp2_with fail
         refine(C m f.o).mono ?_;rintro e y ⟨jZ,q,rfl,g,b⟩;have UC:=g.qE;have N:=H9 (D.qE.stay b);have d:=H9 (then_ f.o b)
         have G:=(z y d.o).1;go_wp2;go_ret2;exact⟨rfl,d.o⟩
       . have t1:decide ((i.length:Int) > 1)=F:=aJ (by omega);have acf:0<i.length:=by omega
         have hhd:(Rq.lists i).headD []=i[0].data.toList:=by
          cases i with
          | nil=>simp at acf
          | cons v r=>rfl
         have HS0:=Ic i 0 acf;have hsz:=Xk i[0] (aC acf);rw[hhd,H] at s;generalize i[0]=x at *;have zR:=fun W=>oF x W (by unfold maxLen;omega);have hcp:(Rq.lists i).length=1:=by rw[H];omega
         by_cases S:Ch.lower x.data.toList=Rq.vw
         . rw[if_neg (fun e=>by rcases e with e | e;exact e (by omega);exact e S)] at s;subst s;rw[S] at zR;generalize j.length=nv at *;go_enter func236,ntmps236;go_wp2_with fail
           refine B.mono ?_;rintro e m ⟨Qr,zu,rfl,u,a⟩;have D:=u;have f:=H9 a
           have t:=(z m a).2;clear u a;go_wp2_with fail
           refine(C m f.o).mono ?_;rintro e y ⟨jZ,q,rfl,g,b⟩;have UC:=H9 g.qE;have N:=H9 (D.qE.stay b);have d:=H9 (then_ f.o b)
           have G:=(z y d.o).1;clear g b t c3 B C;obtain⟨bb,oo,rfl,hcc⟩:=N.o.lit (by rw[vC];omega);have x0:y.cell? ⟨bb,oo,U⟩=M (V x):=by have:=hcc 0 _ HS0;simpa using this
           have hcap:=N.o.1;go_wp2_with fail
           refine(zR _).mono ?_;rintro e w3 ⟨rfl,hb3⟩;have HB3:=then_ d.o hb3;go_wp2;go_ret2;exact⟨rfl,HB3⟩
         . rw[if_pos (Or.inr S)] at s;subst s;have hne:((⟨(Ch.lower x.data.toList).toArray⟩:ay).toList==[99,104,117,110,107,101,100])=F:=by
            rw[Lib.toList_data,aR];exact S
           generalize (⟨(Ch.lower x.data.toList).toArray⟩:ay)=lx at zR hne;generalize j.length=nv at *;go_enter func236,ntmps236;go_wp2_with fail
           refine B.mono ?_;rintro e m ⟨Qr,zu,rfl,u,a⟩;have D:=u;have f:=H9 a
           have t:=(z m a).2;clear u a;go_wp2_with fail
           refine(C m f.o).mono ?_;rintro e y ⟨jZ,q,rfl,g,b⟩;have UC:=H9 g.qE;have N:=H9 (D.qE.stay b);have d:=H9 (then_ f.o b)
           have G:=(z y d.o).1;clear g b t c3 B C;obtain⟨bb,oo,rfl,hcc⟩:=N.o.lit (by rw[vC];omega);have x0:y.cell? ⟨bb,oo,U⟩=M (V x):=by have:=hcc 0 _ HS0;simpa using this
           have hcap:=N.o.1;go_wp2_with fail
           refine(zR _).mono ?_;rintro e w3 ⟨rfl,hb3⟩;have HB3:=then_ d.o hb3;go_wp2;go_ret2;exact⟨rfl,HB3⟩
end Go.Proofs.YthhklgjjnaeaoaaGreatDoor