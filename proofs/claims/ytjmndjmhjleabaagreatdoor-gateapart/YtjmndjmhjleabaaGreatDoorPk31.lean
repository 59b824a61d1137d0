/- Small texts, one behind the other: FdParse, FdBox, FdAll, FdOne, FdText, RqLen. -/
import Derived.Deep.RegionHeld3
import Derived.Test.YtjmndjmhjleabaaGreatDoorPk23
import Derived.Test.YtjmndjmhjleabaaGreatDoorRqNum
open Go.Value renaming int->I,string->V,slice->Z
open Go.IntKind renaming i64->J
open Go.Ending renaming returned->Y
open Option renaming none->U,some->M
open Bool renaming false->F
open Go renaming World->X
set_option maxHeartbeats 2000000
set_option maxRecDepth 100000
open Go.Proofs.Tryz
namespace Go.Proofs.YtjmndjmhjleabaaGreatDoor
open Go.RowKit
structure oD (w W:X):Prop where
 c0:W.cell? ⟨w.heap.size,0,U⟩=M (V ⟨#[]⟩)
 c1:W.cell? ⟨w.heap.size,1,U⟩=M (V ⟨#[]⟩)
 f0:W.frozen? ⟨w.heap.size,0,U⟩=F
 f1:W.frozen? ⟨w.heap.size,1,U⟩=F
 below:Below w.heap.size w W
 lt:w.heap.size<W.heap.size
theorem oD.made (w:X)(t:Nat):oD w (w.alloc (.cells #[V ⟨#[]⟩,V ⟨#[]⟩] t)) :=
 ⟨World.cell?_alloc_mark w _ _ _ 0,World.cell?_alloc_mark w _ _ _ 1,World.frozen?_alloc_mark w _ _ _ _ 0,World.frozen?_alloc_mark w _ _ _ _ 1,(fI _ _).alloc (aL _) _,by simp⟩
theorem oD.stay {w W b:X}(h:oD w W)(a:Below W.heap.size W b):oD w b :=
 ⟨(a.cell (p:=⟨w.heap.size,0,U⟩) h.lt).trans h.c0,(a.cell (p:=⟨w.heap.size,1,U⟩) h.lt).trans h.c1,(a.frozen (p:=⟨w.heap.size,0,U⟩) h.lt).trans h.f0,(a.frozen (p:=⟨w.heap.size,1,U⟩) h.lt).trans h.f1,then_ h.below a,cu h.lt a.size⟩
theorem oD.drewN {w W:X}(h:oD w W)(n:Nat):oD w (W.drewN n):=h.stay (iT ⟨n,rfl⟩)
theorem xI (s:av)(w:X)(hs:s.size<=2000):
 Calls prog 191 #[V s] w fun e w'=>e=Y (Fd.val (Fd.of s.data.toList))∧Below w.heap.size w w':=by
 have d:=H9 (fun W=>xE s 58 W (by unfold maxLen;omega));have H:s.data.toList.length=s.size:=by rw[aN];rfl
 have g:=H9 (Fd.YU s.data.toList);rw[H] at g;unfold Fd.cutV at d;by_cases x:Fd.at_ 58 s.data.toList=s.size
 . rw[if_pos x] at d;have l:Hid (Fd.of s.data.toList=Fd.bad 5):=by have:=g.o;rw[if_pos x] at this;exact this
   clear g x H;go_enter func191,ntmps191;go_wp2_with fail
   refine(d.o _).mono ?_;rintro e i ⟨rfl,n,b⟩;have f:Hid (oD w i):=by rw[b];exact(oD.made w _).drewN n
   clear b d;go_wp2_with fail
   refine(tX ⟨#[]⟩ i (by decide)).mono ?_;rintro e L ⟨rfl,a⟩;have c:=H9 (f.out.stay a);have m:=c.out.c0;have p:=c.out.c1;have N:=c.out.f0;have O:=c.out.f1
   clear f a;go_wp2;refine gq (v:=.tuple #[.agg #[V ⟨#[]⟩,V ⟨#[]⟩],I J 5]) (by simp[results,results191,go_sem,m,p]) rfl ⟨by rw[l.o];rfl,?_⟩;exact(c.out.below.setCell (aL _) _).setCell (aL _) _
 . rw[if_neg x] at d;have hk:=Fd.U5 58 s.data.toList;rw[H] at hk;have q:=g.o;rw[if_neg x] at q;have hlt:Fd.at_ 58 s.data.toList<s.size:=by omega
   clear g x H hk;generalize Fd.at_ 58 s.data.toList=k at d q hlt;have e1:(s.extract 0 k).data.toList=s.data.toList.take k:=by rw[Lib.extract_data];simp
   have e2:(s.extract (k+1) s.size).data.toList=s.data.toList.drop (k+1):=Lib.extract_to_end s (k+1);rw[<-e1,<-e2] at q;have z1:(s.extract 0 k).size=k:=by simp;omega
   have z2:(s.extract (k+1) s.size).size<=2000:=by simp;omega
   have u:=H9 (fun W=>wm (s.extract 0 k) W (by rw[z1];unfold maxLen;omega));have j:=H9 (fun W=>tX (s.extract (k+1) s.size) W (dF z2 (by decide)));have B:=H9 (fun W=>lK (s.extract 0 k) W (by omega));have C:(⟨(Lib.trimS (s.extract (k+1) s.size).data.toList Ch.ws).toArray⟩:av).size<=maxLen:=by
    have q:=vW (s.extract (k+1) s.size).data.toList;rw[Ch.iC] at q;show(Lib.trimS _ Ch.ws).toArray.size<=maxLen;rw[bL];unfold maxLen;omega
   have r:=H9 (fun W=>kT ⟨(Lib.trimS (s.extract (k+1) s.size).data.toList Ch.ws).toArray⟩ W C);clear e1 e2 z2 C;generalize s.extract (k+1) s.size=rest at d j r q;have t:(⟨(Lib.trimS rest.data.toList Ch.ws).toArray⟩:av).data.toList=Lib.trimS rest.data.toList Ch.ws:=rfl;rw[t] at r;clear t;generalize s.extract 0 k=P at d u B q z1;have g:=H9 q;clear q;generalize Lib.trimS rest.data.toList Ch.ws=tv at j r g;cases y:Ch.isToken P.data.toList
   . rw[y] at u;have l:Hid (Fd.of s.data.toList=Fd.bad 6):=by have:=g.o;rw[if_pos y] at this;exact this
     clear g y r B;go_enter func191,ntmps191;go_wp2_with fail
     refine(d.o _).mono ?_;rintro e i ⟨rfl,n,b⟩;have f:Hid (oD w i):=by rw[b];exact(oD.made w _).drewN n
     clear b d;go_wp2_with fail
     refine(j.o _).mono ?_;rintro e L ⟨rfl,a⟩;have c:=H9 (f.out.stay a);have m:=c.out.c0;have p:=c.out.c1;have N:=c.out.f0;have O:=c.out.f1
     clear f a j;go_wp2_with fail
     refine(u.o _).mono ?_;rintro e w3 ⟨rfl,b⟩;subst b;go_wp2;refine gq (v:=.tuple #[.agg #[V ⟨#[]⟩,V ⟨#[]⟩],I J 6]) (by simp[results,results191,go_sem,m,p]) rfl ⟨by rw[l.o];rfl,?_⟩;exact(c.out.below.setCell (aL _) _).setCell (aL _) _
   . rw[y] at u;have h6:=g.o;rw[if_neg (by rw[y];simp)] at h6;have S:=H9 h6;clear g y h6;by_cases Yo:40<k
     . have l:Hid (Fd.of s.data.toList=Fd.bad 4):=by have:=S.o;rw[if_pos Yo] at this;exact this
       have t40:decide ((P.size:Int) > 40)=true:=by rw[bQ];omega
       clear S r B;go_enter func191,ntmps191;go_wp2_with fail
       refine(d.o _).mono ?_;rintro e i ⟨rfl,n,b⟩;have f:Hid (oD w i):=by rw[b];exact(oD.made w _).drewN n
       clear b d;go_wp2_with fail
       refine(j.o _).mono ?_;rintro e L ⟨rfl,a⟩;have c:=H9 (f.out.stay a);have m:=c.out.c0;have p:=c.out.c1;have N:=c.out.f0;have O:=c.out.f1
       clear f a j;go_wp2_with fail
       refine(u.o _).mono ?_;rintro e w3 ⟨rfl,b⟩;subst b;go_wp2;refine gq (v:=.tuple #[.agg #[V ⟨#[]⟩,V ⟨#[]⟩],I J 4]) (by simp[results,results191,go_sem,m,p]) rfl ⟨by rw[l.o];rfl,?_⟩;exact(c.out.below.setCell (aL _) _).setCell (aL _) _
     . have h4:=S.o;rw[if_neg Yo] at h4;have T:=H9 h4;clear S h4;have t40:decide ((P.size:Int) > 40)=F:=by rw[bP];omega
       cases z:Ch.iw tv
       . rw[z] at r;have l:Hid (Fd.of s.data.toList=Fd.bad 3):=by have:=T.o;rw[if_pos z] at this;exact this
         clear T z B;go_enter func191,ntmps191;go_wp2_with fail
         refine(d.o _).mono ?_;rintro e i ⟨rfl,n,b⟩;have f:Hid (oD w i):=by rw[b];exact(oD.made w _).drewN n
         clear b d;go_wp2_with fail
         refine(j.o _).mono ?_;rintro e L ⟨rfl,a⟩;have c:=H9 (f.out.stay a);have m:=c.out.c0;have p:=c.out.c1;have N:=c.out.f0;have O:=c.out.f1
         clear f a j;go_wp2_with fail
         refine(u.o _).mono ?_;rintro e w3 ⟨rfl,b⟩;subst b;go_wp2_with fail
         refine(r.o _).mono ?_;rintro e w4 ⟨rfl,b⟩;subst b;go_wp2;refine gq (v:=.tuple #[.agg #[V ⟨#[]⟩,V ⟨#[]⟩],I J 3]) (by simp[results,results191,go_sem,m,p]) rfl ⟨by rw[l.o];rfl,?_⟩;exact(c.out.below.setCell (aL _) _).setCell (aL _) _
       . rw[z] at r;have h3:=T.o;rw[if_neg (by rw[z];simp)] at h3;have l:=H9 h3;clear T z h3;go_enter func191,ntmps191;go_wp2_with fail
         refine(d.o _).mono ?_;rintro e i ⟨rfl,n,b⟩;have f:Hid (oD w i):=by rw[b];exact(oD.made w _).drewN n
         clear b d;go_wp2_with fail
         refine(j.o _).mono ?_;rintro e L ⟨rfl,a⟩;have c:=H9 (f.out.stay a);clear f a j;go_wp2_with fail
         refine(u.o _).mono ?_;rintro e w3 ⟨rfl,b⟩;subst b;go_wp2_with fail
         refine(r.o _).mono ?_;rintro e w4 ⟨rfl,b⟩;subst b;go_wp2_with fail
         refine(B.o _).mono ?_;rintro e w5 ⟨rfl,D⟩;have G:=H9 (c.out.stay D);have m:=G.out.c0;have p:=G.out.c1;have N:=G.out.f0;have O:=G.out.f1
         clear c D;go_wp2;refine gq (v:=.tuple #[.agg #[V P,V ⟨tv.toArray⟩],I J 0]) (by simp[results,results191,go_sem,m,p]) rfl ⟨by rw[l.o];rfl,?_⟩;exact(G.out.below.setCell (aL _) _).setCell (aL _) _
structure nU (w:X)(n v:av)(W:X):Prop where
 c0:W.cell? ⟨w.heap.size,0,U⟩=M (V n)
 c1:W.cell? ⟨w.heap.size,1,U⟩=M (V v)
 below:Below w.heap.size w W
 lt:w.heap.size<W.heap.size
theorem nU.made (w:X)(n v:av)(t:Nat):nU w n v (w.alloc (.cells #[V n,V v] t)) :=
 ⟨World.cell?_alloc_mark w _ _ _ 0,World.cell?_alloc_mark w _ _ _ 1,(fI _ _).alloc (aL _) _,by simp⟩
theorem nU.stay {w W b:X}{n v:av}(h:nU w n v W)(a:Below W.heap.size W b):nU w n v b :=
 ⟨(a.cell (p:=⟨w.heap.size,0,U⟩) h.lt).trans h.c0,(a.cell (p:=⟨w.heap.size,1,U⟩) h.lt).trans h.c1,then_ h.below a,cu h.lt a.size⟩
theorem nU.drew {w W:X}{n v:av}(h:nU w n v W):nU w n v W.drew:=h.stay (gP _ _)
theorem uf (l:ak)(a:av)(ao:aj)(cap n:Nat)(w:X)(hl:jm w ao cap n (gT l))(hn:l.length=n)(hN:n<=1000000)(hs:∀p∈l,p.1.size<=2000∧p.2.size<=2000)(hnm:a.size<=2000):
 Calls prog 157 #[Z ao n cap,V a] w fun e w'=>∃gV b,e=Y (Z gV (Fd.vals a l).length b)∧gU w' w.heap.size 9 1 gV b (Fd.vals a l).length (oH (Fd.vals a l))∧Below w.heap.size w w':=by
 subst hn;obtain⟨i0,B,C,D,G⟩:=info_parts D8;have Hi:=H9 B;have kJ:=H9 C;have kG:=H9 D;have kK:=H9 G
 have H:=H9 hl;have Hs:=H9 hs;have j:=H9 (oM a w (by unfold maxLen;omega));clear hl hs B C D G;have HX:Hid (∀p:av,((⟨(Ch.lower p.data.toList).toArray⟩:av).toList==(⟨(Ch.lower a.data.toList).toArray⟩:av).toList)=decide (Ch.lower p.data.toList=Ch.lower a.data.toList)):=by
  intro p;rw[Lib.toList_data,Lib.toList_data,aG];simp
 generalize (⟨(Ch.lower a.data.toList).toArray⟩:av)=sn at j HX;go_enter func157,ntmps157;go_wp2_with fail
 refine j.o.mono ?_;rintro e w0 ⟨rfl,L⟩;have N:=H9 L;clear L j;go_wp2;go_loopw [6,13] (fun v t wr=>∃(k:Nat) (gV:aj) (b:Nat),k<=l.length∧t=I J k∧v=Z gV (Fd.vals a (l.take k)).length b∧gU wr w.heap.size 9 1 gV b (Fd.vals a (l.take k)).length (oH (Fd.vals a (l.take k)))∧Below w.heap.size w wr) (fun _ t _=>l.length-(intOf t).toNat)
 case atStart=>exact⟨0,U,0,ay _,rfl,rfl,gU.nil _ _ _ _,N.o⟩
 case round =>
  obtain⟨k,gV,b,hk,rfl,rfl,hO,hB⟩:=hrel;have HO:=H9 hO;have O:=H9 hB
  clear hO hB N;have hvl:=Fd.kN a (l.take k);have hvk:(l.take k).length<=k:=dL _ _;by_cases f:k<l.length
  . have hpl:0<(gT l).length:=by rw[mV];omega
    obtain⟨bb,oo,rfl,m⟩:=H.o.lit hpl;have x:=m _ _ (nX l k f).1;have h2:=m _ _ (nX l k f).2;rw[<-bK] at h2;have P:=(O.o.cell (fZ w _ x)).trans x;have S:=(O.o.cell (fZ w _ h2)).trans h2;clear m x h2;have HT:Hid (l.take (k+1)=l.take k++[l[k]]):=bN f;have hp1:=Hs.o l[k] (aB f);have r:=H9 (fun W=>oM l[k].1 W (by unfold maxLen;omega));have Al:=H9 (fun W=>lK l[k].2 W (by have:=hp1.2;omega));have hlt':(k:Int)<l.length:=by omega
    have z:=H9 (Fd.Ib a (l.take k) l[k]);rw[<-HT.o] at z;generalize l[k]=p at *;have T:=H9 (HX.o p.1);generalize (⟨(Ch.lower p.1.data.toList).toArray⟩:av)=sp at r T;generalize Fd.vals a (l.take k)=vs at HO z hvl;by_cases c:Ch.lower p.1.data.toList=Ch.lower a.data.toList
    . have hx:=T.o;rw[aH c] at hx;have Lf:Hid (Fd.vals a (l.take (k+1))=vs++[p.2]):=by have:=z.o;rw[if_pos c] at this;exact this
      clear z T c HX;go_wp2_with fail
      refine(r.o _).mono ?_;rintro e w1 ⟨rfl,d⟩;have i:=(nU.made wr p.1 p.2 _).stay d;have B1:=H9 (then_ O.o i.below);have O1:=H9 (HO.o.stay i.below);have c1:=i.c1;clear d i P S;go_wp2_with fail
      refine(Al.o _).mono ?_;rintro e w2 ⟨rfl,s⟩;have g:=H9 (then_ B1.out s);have BO:=H9 (O1.out.stay s);clear s c1 B1 O1;go_wp2_with (at_builtin;refine gQ rfl (.tmp 22) (.tmp 26) 134 rfl w.heap.size 9 i0 (V ⟨#[]⟩) 1 16 underlying134 Hi.o kJ.o kG.o kK.o rfl (by decide) rfl (BO.o.alloc _) rfl (jm.made _ _ 1 _ _) rfl (fun u hu=>by simp at hu;subst hu;rfl) (by omega) (by omega) (by have:=g.o.size;simp;omega) ?_;intro jP gW w3 hO3 hG3 _)
      go_roundw
      case rel =>
       have e1:Fd.vals a (l.take (k+1))=vs++[p.2]:=Lf.o;refine⟨k+1,jP,gW,by omega,by go_num,by rw[e1,aV];rfl,?_,?_⟩
       . rw[e1,aV,vP];exact hO3
       . exact(g.o.alloc g.o.size _).grown hG3 (by have:=g.o.size;simp;omega) (fun q e=>by
          cases gV with
          | none=>simp[gK] at e
          | some y=>simp only[gK,bT] at e;have:=(BO.o.block y rfl).1;omega)
      case measure=>simp[intOf];omega
    . have hx:=T.o;rw[aI c] at hx;have Lf:Hid (Fd.vals a (l.take (k+1))=vs):=by have:=z.o;rw[if_neg c] at this;exact this
      clear z T c HX;go_wp2_with fail
      refine(r.o _).mono ?_;rintro e w1 ⟨rfl,d⟩;have i:=(nU.made wr p.1 p.2 _).stay d;have B1:=H9 (then_ O.o i.below);have O1:=H9 (HO.o.stay i.below);clear d i P S;go_wp2;go_roundw
      case rel=>exact⟨k+1,gV,b,by omega,by go_num,by rw[Lf.o],by rw[Lf.o];exact O1.out,B1.out⟩
      case measure=>simp[intOf];omega
  . obtain rfl:k=l.length:=by omega
    go_wp2;go_ret;have e:l.take l.length=l:=bO;have x:=HO.o;rw[e] at x;exact⟨gV,b,by rw[e];rfl,x,O.o⟩
theorem ug (l:ak)(a:av)(ao:aj)(cap n:Nat)(w:X)(r:jm w ao cap n (gT l))(s:l.length=n)(B:n<=1000000)(u:∀p∈l,p.1.size<=2000∧p.2.size<=2000)(k:a.size<=2000):
 Calls prog 117 #[Z ao n cap,V a] w fun e w'=>e=Y (rP (Fd.one (Fd.vals a l)))∧Below w.heap.size w w':=by
 have d:=H9 (uf l a ao cap n w r s B u k);have f:=Fd.kN a l;rw[s] at f;generalize Fd.vals a l=m at d f;clear r u;rcases m with _ | ⟨v,_ | ⟨j,t⟩⟩
 . go_enter func117,ntmps117;go_wp2_with fail
   refine d.o.mono ?_;rintro e x ⟨y,z,rfl,b,c⟩;have q:=H9 b;have g:=H9 c
   clear b c d;go_wp2;go_ret2;exact⟨qj (p:=([],10)) rfl rfl,g.o⟩
 . go_enter func117,ntmps117;go_wp2_with fail
   refine d.o.mono ?_;rintro e x ⟨y,z,rfl,b,c⟩;have q:=H9 b;have g:=H9 c
   clear b c d;obtain⟨G,H,rfl,i⟩:=q.o.nP.lit (by simp[oH]);have C:=i 0 (V v) rfl;rw[bJ] at C;clear i;go_wp2;go_ret2;exact⟨qj (p:=(v.data.toList,0)) rfl rfl,g.o⟩
 . have N:(((v::j::t).length:Int)==0)=F:=by rw[aR,aW,aW];omega
   have O:(((v::j::t).length:Int)==1)=F:=by rw[aR,aW,aW];omega
   have D:Hid (Fd.one (v::j::t)=([],9)):=rfl;generalize v::j::t=m at *;generalize m.length=L at *;go_enter func117,ntmps117;go_wp2_with fail
   refine d.o.mono ?_;rintro e x ⟨y,z,rfl,b,c⟩;have q:=H9 b;have g:=H9 c
   clear b c d;go_wp2;go_ret2;exact⟨qj (p:=([],9)) D.o rfl,g.o⟩
theorem WB (n v:av)(w:X)(hn:n.size<=100000)(hv:v.size<=100000):
 Calls prog 147 #[.agg #[V n,V v]] w fun e w'=>e=Y (rP (Fd.text n.data.toList v.data.toList))∧Below w.heap.size w w':=by
 have j:=H9 (fun W=>wm n W (by unfold maxLen;omega));have l:=H9 (fun W=>kT v W (by unfold maxLen;omega));have k:=H9 (fun W=>tX v W (by omega));have r:n.data.toList.length=n.size:=by rw[aN];rfl
 have s:v.data.toList.length=v.size:=by rw[aN];rfl
 have t:Fd.text n.data.toList v.data.toList=if Ch.isToken n.data.toList=F then ([],6) else if 40<n.size∨200<n.size+2+v.size then ([],4) else if Ch.iw v.data.toList=F∨Lib.trimS v.data.toList Ch.ws≠v.data.toList then ([],3) else (n.data.toList++[58,32]++v.data.toList,0):=by
  unfold Fd.text;rw[r,s]
 clear r s;have z:=H9 t;clear t;have i:(n++⟨#[58,32]⟩++v).size=n.size+2+v.size:=by simp[ByteArray.size_append];rfl
 have u:Hid (n++⟨#[58,32]⟩++v=⟨(n.data.toList++[58,32]++v.data.toList).toArray⟩):=Ch.str_eq (by rw[Ch.data_append,Ch.data_append]);cases p:Ch.isToken n.data.toList
 . rw[p] at j;have f:Hid (Fd.text n.data.toList v.data.toList=([],6)):=by have:=z.o;rw[if_pos p] at this;exact this
   clear z p l k u;go_enter func147,ntmps147;go_wp2_with fail
   refine(j.o _).mono ?_;rintro e g ⟨rfl,a⟩;have m:=RL ⟨0,a⟩;clear a;go_wp2;go_ret2;exact⟨qj f.o rfl,m⟩
 . rw[p] at j;have G:=z.o;rw[if_neg (by rw[p];simp)] at G;have B:=H9 G;clear z p G;by_cases H:40<n.size∨200<n.size+2+v.size
   . have f:Hid (Fd.text n.data.toList v.data.toList=([],4)):=by have:=B.o;rw[if_pos H] at this;exact this
     clear B l k u;by_cases C:40<n.size
     . have P:decide ((n.size:Int) > 40)=true:=by rw[bQ];omega
       go_enter func147,ntmps147;go_wp2_with fail
       refine(j.o _).mono ?_;rintro e g ⟨rfl,a⟩;have b:Hid (nU w n v g):=by rw[a];exact nU.made w n v _
       clear a;have D:=b.out.c0;go_wp2;go_ret2;exact⟨qj f.o rfl,b.out.below⟩
     . have P:decide ((n.size:Int) > 40)=F:=by rw[bP];omega
       have t2:decide (((n++⟨#[58,32]⟩++v).size:Int) > 200)=true:=by rw[bQ,i];omega
       clear i;go_enter func147,ntmps147;go_wp2_with fail
       refine(j.o _).mono ?_;rintro e g ⟨rfl,a⟩;have b:Hid (nU w n v g):=by rw[a];exact nU.made w n v _
       clear a;have D:=b.out.c0;generalize n++⟨#[58,32]⟩++v=L at *;go_wp2;go_ret2;exact⟨qj f.o rfl,b.out.below⟩
   . have C:=B.o;rw[if_neg H] at C;have q:=H9 C;clear B C;have P:decide ((n.size:Int) > 40)=F:=by rw[bP];omega
     have t2:decide (((n++⟨#[58,32]⟩++v).size:Int) > 200)=F:=by rw[bP,i];omega
     clear H i;cases c:Ch.iw v.data.toList
     . rw[c] at l;have f:Hid (Fd.text n.data.toList v.data.toList=([],3)):=by have:=q.o;rw[if_pos (Or.inl c)] at this;exact this
       clear q c k u;go_enter func147,ntmps147;go_wp2_with fail
       refine(j.o _).mono ?_;rintro e g ⟨rfl,a⟩;have b:Hid (nU w n v g):=by rw[a];exact nU.made w n v _
       clear a;have D:=b.out.c0;have S:=b.out.c1;generalize n++⟨#[58,32]⟩++v=L at *;go_wp2_with fail
       refine(l.o _).mono ?_;rintro e T ⟨rfl,a⟩;subst a;go_wp2;go_ret2;exact⟨qj f.o rfl,b.out.below⟩
     . rw[c] at l;by_cases d:Lib.trimS v.data.toList Ch.ws=v.data.toList
       . have f:Hid (Fd.text n.data.toList v.data.toList=(n.data.toList++[58,32]++v.data.toList,0)):=by have:=q.o;rw[if_neg (by rw[c,d];simp)] at this;exact this
         rw[d] at k;have x:(⟨v.data.toList.toArray⟩:av)=v:=rfl;rw[x] at k;clear q c d x;go_enter func147,ntmps147;go_wp2_with fail
         refine(j.o _).mono ?_;rintro e g ⟨rfl,a⟩;have b:Hid (nU w n v g):=by rw[a];exact nU.made w n v _
         clear a;have D:=b.out.c0;have S:=b.out.c1;generalize n++⟨#[58,32]⟩++v=L at *;go_wp2_with fail
         refine(l.o _).mono ?_;rintro e T ⟨rfl,a⟩;subst a;go_wp2;go_region_held3 (fun w'=>w'.cell? ⟨w.heap.size,1,U⟩=M (V v)) (go_keep) (first | (go_at_call 193;refine(k.o _).mono ?_;rintro e w5 ⟨rfl,m⟩;have y:=H9 (b.out.drew.stay m);have N:=y.out.c1;clear m))
         all_goals
          go_wp2;go_ret2;exact⟨qj f.o (by unfold rP;rw[<-u.o];rfl),y.out.below⟩
       . have f:Hid (Fd.text n.data.toList v.data.toList=([],3)):=by have:=q.o;rw[if_pos (Or.inr d)] at this;exact this
         have O:((⟨(Lib.trimS v.data.toList Ch.ws).toArray⟩:av).toList==v.toList)=F:=by
          rw[Lib.toList_data,Lib.toList_data,aR];simpa using d
         clear q c d u;generalize (⟨(Lib.trimS v.data.toList Ch.ws).toArray⟩:av)=tv at k O;go_enter func147,ntmps147;go_wp2_with fail
         refine(j.o _).mono ?_;rintro e g ⟨rfl,a⟩;have b:Hid (nU w n v g):=by rw[a];exact nU.made w n v _
         clear a;have D:=b.out.c0;have S:=b.out.c1;generalize n++⟨#[58,32]⟩++v=L at *;go_wp2_with fail
         refine(l.o _).mono ?_;rintro e T ⟨rfl,a⟩;subst a;go_wp2;go_region_held3 (fun w'=>w'.cell? ⟨w.heap.size,1,U⟩=M (V v)) (go_keep) (first | (go_at_call 193;refine(k.o _).mono ?_;rintro e w5 ⟨rfl,m⟩;have y:=H9 (b.out.drew.stay m);have N:=y.out.c1;clear m))
         all_goals
          go_wp2;go_ret2;exact⟨qj f.o rfl,y.out.below⟩
def XP:av:=⟨#[72,111,115,116]⟩
def XQ:av:=⟨#[67,111,110,116,101,110,116,45,76,101,110,103,116,104]⟩
def XR:av:=⟨#[84,114,97,110,115,102,101,114,45,69,110,99,111,100,105,110,103]⟩
theorem Ui (l:ak):Fd.vals XP l=Fd.vals rQ l:=Fd.kZ _ _ l (by decide)
theorem Uj (l:ak):Fd.vals XQ l=Fd.vals qm l:=Fd.kZ _ _ l (by decide)
theorem Uk (l:ak):Fd.vals XR l=Fd.vals qp l:=Fd.kZ _ _ l (by decide)
theorem Ul (l:ak)(a:av)(ao:aj)(cap n:Nat)(w:X)(f:jm w ao cap n (gT l))(g:l.length=n)(i:n<=1000000)(j:∀p∈l,p.1.size<=2000∧p.2.size<=2000)(b:a.size<=2000):
 Calls prog 189 #[Z ao n cap,V a] w fun e w'=>e=Y (I J ((Fd.vals a l).length:Int))∧Below w.heap.size w w':=by
 have c:=H9 (uf l a ao cap n w f g i j b);generalize (Fd.vals a l)=q at c ⊢;go_enter func189,ntmps189;go_wp2_with (go_at_call 157;refine c.o.mono ?_;rintro e r ⟨s,t,rfl,k,d⟩;have m:=H9 d;clear k d)
 go_ret;exact⟨rfl,m.o⟩
theorem Pv (gh mi:Nat)(l:ak)(fo:aj)(gL n:Nat)(w:X)(c2:w.cell? ⟨gh,2,U⟩=M (I J (mi:Int)))(c3:w.cell? ⟨gh,3,U⟩=M (Z fo n gL))(hl:jm w fo gL n (gT l))(hn:l.length=n)(hN:n<=16)(hs:∀p∈l,p.1.size<=2000∧p.2.size<=2000):
 Calls prog 190 #[.pointer (M ⟨gh,0,U⟩)] w fun e w'=>e=Y (Rq.lenVal (Rq.zJ mi (Rq.lists (Fd.vals qm l)) (Rq.lists (Fd.vals qp l))))∧Below w.heap.size w w':=by
 have z:=H9 (uf l XR fo gL n w hl hn (by omega) hs (by decide));have B:=H9 (fun W (hW:Below w.heap.size w W)=>uf l XQ fo gL n W (hl.stay hW) hn (by omega) hs (by decide));rw[Uk] at z;simp only[Uj] at B;have N:=H9 (fun W (hW:Below w.heap.size w W)=>And.intro ((hW.cell (fZ w _ c2)).trans c2) ((hW.cell (fZ w _ c3)).trans c3));have hm1:∀v∈Fd.vals qp l,v.size<=2000:=fun v hv=>by
  obtain⟨p,hp,rfl⟩:=Fd.wB hv;exact(hs p hp).2
 have hm2:∀v∈Fd.vals qm l,v.size<=2000:=fun v hv=>by
  obtain⟨p,hp,rfl⟩:=Fd.wB hv;exact(hs p hp).2
 have hv1:=Fd.kN qp l;have hv2:=Fd.kN qm l;generalize Fd.vals qp l=j at z hm1 hv1 ⊢;generalize Fd.vals qm l=s at B hm2 hv2 ⊢;have Xj:=H9 hm1;have UZ:=H9 hm2
 have hcl:j.length<=16:=by omega
 have hvl:s.length<=16:=by omega
 clear hm1 hm2 hl hs hv1 hv2 c2 hn hN;unfold XR at z;simp only[XQ] at B;have Z7:Hid (Rq.zJ mi (Rq.lists s) (Rq.lists j)=if Rq.lists j≠[] then (if Rq.lists s≠[]∨mi=0 then .inl 12 else if (Rq.lists j).length≠1∨Ch.lower ((Rq.lists j).headD [])≠Rq.pI then .inl 11 else .inr (-1)) else Rq.sM (Rq.lists s)):=rfl;generalize Rq.zJ mi (Rq.lists s) (Rq.lists j)=ai at Z7 ⊢;have m:∀l:List av,(Rq.lists l).length=l.length:=fun l=>by simp[Rq.lists]
 have q:∀l:List av,Rq.lists l≠[]<->0<l.length:=fun l=>by rw[<-m l];exact List.length_pos_iff.symm
 by_cases D:j.length=0
 . have t0:((j.length:Int)==0)=true:=aS.2 (by omega);have HS:=H9 (fun ao cap W h=>Fj s ao cap W h (by omega) UZ.o);have C:ai=Rq.sM (Rq.lists s):=by rw[Z7.o,if_neg (by rw[q];omega)]
   subst C;generalize Rq.sM (Rq.lists s)=ai at HS ⊢;generalize j.length=nc at *;clear D Z7 m q;go_enter func190,ntmps190;go_wp2_with fail
   refine z.o.mono ?_;rintro e t ⟨zT,ou,rfl,u,a⟩;have O:=H9 u;have f:=H9 a
   have i:=(N.o t a).2;clear u a;go_wp2_with fail
   refine(B.o t f.o).mono ?_;rintro e G ⟨jw,y,rfl,g,b⟩;have Lf:=H9 g.nP;have Z8:=H9 (O.o.nP.stay b);have d:=H9 (then_ f.o b)
   have P:=(N.o G d.o).1;clear g b i c3 z B;cases ai with
   | inl c =>
     unfold Rq.lenVal at HS;go_wp2_with fail
     refine(HS.o _ _ _ Lf.o).mono ?_;rintro e w3 ⟨rfl,hw⟩;subst hw;go_wp2;go_ret2;exact⟨rfl,d.o⟩
   | inr k =>
     unfold Rq.lenVal at HS;go_wp2_with fail
     refine(HS.o _ _ _ Lf.o).mono ?_;rintro e w3 ⟨rfl,hw⟩;subst hw;go_wp2;go_ret2;exact⟨rfl,d.o⟩
 . have t0:((j.length:Int)==0)=F:=aR.2 (by omega);have C:=Z7.o;rw[if_pos ((q j).2 (by omega))] at C;by_cases hv0:0<s.length
   . have tv:decide ((s.length:Int) > 0)=true:=aH (by omega);rw[if_pos (Or.inl ((q s).2 hv0))] at C;subst C;clear D Z7 m q;go_enter func190,ntmps190;go_wp2_with fail
     refine z.o.mono ?_;rintro e t ⟨zT,ou,rfl,u,a⟩;have O:=H9 u;have f:=H9 a
     have i:=(N.o t a).2;clear u a;go_wp2_with fail
     refine(B.o t f.o).mono ?_;rintro e G ⟨jw,y,rfl,g,b⟩;have Lf:=H9 g.nP;have Z8:=H9 (O.o.nP.stay b);have d:=H9 (then_ f.o b)
     have P:=(N.o G d.o).1;clear g b i c3 z B;go_wp2;go_ret2;exact⟨rfl,d.o⟩
   . have tv:decide ((s.length:Int) > 0)=F:=aI (by omega);by_cases H:mi=0
     . have tm:((mi:Int)==0)=true:=aS.2 (by omega);rw[if_pos (Or.inr H)] at C;subst C;generalize s.length=nv at *;clear D Z7 m q H;go_enter func190,ntmps190;go_wp2_with fail
       refine z.o.mono ?_;rintro e t ⟨zT,ou,rfl,u,a⟩;have O:=H9 u;have f:=H9 a
       have i:=(N.o t a).2;clear u a;go_wp2_with fail
       refine(B.o t f.o).mono ?_;rintro e G ⟨jw,y,rfl,g,b⟩;have Lf:=H9 g.nP;have Z8:=H9 (O.o.nP.stay b);have d:=H9 (then_ f.o b)
       have P:=(N.o G d.o).1;clear g b i c3 z B;go_wp2;go_ret2;exact⟨rfl,d.o⟩
     . have tm:((mi:Int)==0)=F:=aR.2 (by omega);rw[if_neg (fun e=>by rcases e with e | e;exact hv0 ((q s).1 e);exact H e)] at C;by_cases hc1:1<j.length
       . have t1:decide ((j.length:Int) > 1)=true:=aH (by omega);rw[if_pos (Or.inl (by rw[m];omega))] at C;subst C;generalize s.length=nv at *;clear D Z7 m q H;go_enter func190,ntmps190;go_wp2_with fail
         refine z.o.mono ?_;rintro e t ⟨zT,ou,rfl,u,a⟩;have O:=H9 u;have f:=H9 a
         have i:=(N.o t a).2;clear u a;go_wp2_with fail
         refine(B.o t f.o).mono ?_;rintro e G ⟨jw,y,rfl,g,b⟩;have Lf:=H9 g.nP;have Z8:=H9 (O.o.nP.stay b);have d:=H9 (then_ f.o b)
         have P:=(N.o G d.o).1;clear g b i c3 z B;go_wp2;go_ret2;exact⟨rfl,d.o⟩
       . have t1:decide ((j.length:Int) > 1)=F:=aI (by omega);have acU:0<j.length:=by omega
         have hhd:(Rq.lists j).headD []=j[0].data.toList:=by
          cases j with
          | nil=>simp at acU
          | cons v r=>rfl
         have ZF:=H9 (zm j 0 acU);have hsz:=Xj.o j[0] (aB acU);rw[hhd,m] at C;generalize j[0]=x at *;have sQ:=H9 (fun W=>oM x W (by unfold maxLen;omega));have hcp:(Rq.lists j).length=1:=by rw[m];omega
         by_cases L:Ch.lower x.data.toList=Rq.pI
         . rw[if_neg (fun e=>by rcases e with e | e;exact e (by omega);exact e L)] at C;subst C;rw[L] at sQ;generalize s.length=nv at *;clear D Z7 m q H hhd hcp L;go_enter func190,ntmps190;go_wp2_with fail
           refine z.o.mono ?_;rintro e t ⟨zT,ou,rfl,u,a⟩;have O:=H9 u;have f:=H9 a
           have i:=(N.o t a).2;clear u a;go_wp2_with fail
           refine(B.o t f.o).mono ?_;rintro e G ⟨jw,y,rfl,g,b⟩;have Lf:=H9 g.nP;have Z8:=H9 (O.o.nP.stay b);have d:=H9 (then_ f.o b)
           have P:=(N.o G d.o).1;clear g b i c3 z B;obtain⟨bb,oo,rfl,S⟩:=Z8.o.lit (by rw[sH];omega);have x0:G.cell? ⟨bb,oo,U⟩=M (V x):=by have:=S 0 _ ZF.o;simpa using this
           have hcap:=Z8.o.1;clear S;go_wp2_with fail
           refine(sQ.o _).mono ?_;rintro e w3 ⟨rfl,T⟩;have HB3:=H9 (then_ d.o T);clear T;go_wp2;go_ret2;exact⟨rfl,HB3.o⟩
         . rw[if_pos (Or.inr L)] at C;subst C;have hne:((⟨(Ch.lower x.data.toList).toArray⟩:av).toList==[99,104,117,110,107,101,100])=F:=by
            rw[Lib.toList_data,aR];exact L
           generalize (⟨(Ch.lower x.data.toList).toArray⟩:av)=lx at sQ hne;generalize s.length=nv at *;clear D Z7 m q H hhd hcp L;go_enter func190,ntmps190;go_wp2_with fail
           refine z.o.mono ?_;rintro e t ⟨zT,ou,rfl,u,a⟩;have O:=H9 u;have f:=H9 a
           have i:=(N.o t a).2;clear u a;go_wp2_with fail
           refine(B.o t f.o).mono ?_;rintro e G ⟨jw,y,rfl,g,b⟩;have Lf:=H9 g.nP;have Z8:=H9 (O.o.nP.stay b);have d:=H9 (then_ f.o b)
           have P:=(N.o G d.o).1;clear g b i c3 z B;obtain⟨bb,oo,rfl,S⟩:=Z8.o.lit (by rw[sH];omega);have x0:G.cell? ⟨bb,oo,U⟩=M (V x):=by have:=S 0 _ ZF.o;simpa using this
           have hcap:=Z8.o.1;clear S;go_wp2_with fail
           refine(sQ.o _).mono ?_;rintro e w3 ⟨rfl,T⟩;have HB3:=H9 (then_ d.o T);clear T;go_wp2;go_ret2;exact⟨rfl,HB3.o⟩
end Go.Proofs.YtjmndjmhjleabaaGreatDoor