/- Small texts, one behind the other: FdParse, FdBox, FdAll, FdOne, FdText, RqLen. -/
import Derived.Test.YtjmndjmhjleabaaGreatDoorAl
import Derived.Test.YtjmndjmhjleabaaGreatDoorAm
import Derived.Test.YtjmndjmhjleabaaGreatDoorPk17
import Derived.Deep.RegionHeld3
import Derived.Test.YtjmndjmhjleabaaGreatDoorPk5
import Derived.Test.YtjmndjmhjleabaaGreatDoorPk23
import Derived.Test.YtjmndjmhjleabaaGreatDoorPk4
import Derived.Test.YtjmndjmhjleabaaGreatDoorPk1
import Derived.Test.YtjmndjmhjleabaaGreatDoorRqNum
set_option maxHeartbeats 2000000
set_option maxRecDepth 100000
open Go.Proofs.Tryz
namespace Go.Proofs.YtjmndjmhjleabaaGreatDoor
open Go.RowKit
structure oF (w W:World):Prop where
 c0:W.cell? ⟨w.heap.size,0,none⟩=some (.string ⟨#[]⟩)
 c1:W.cell? ⟨w.heap.size,1,none⟩=some (.string ⟨#[]⟩)
 f0:W.frozen? ⟨w.heap.size,0,none⟩=false
 f1:W.frozen? ⟨w.heap.size,1,none⟩=false
 below:aj w W
 lt:w.heap.size<W.heap.size
theorem oF.made (w:World)(t:Nat):oF w (w.alloc (.cells #[.string ⟨#[]⟩,.string ⟨#[]⟩] t)) :=
 ⟨World.cell?_alloc_mark w _ _ _ 0,World.cell?_alloc_mark w _ _ _ 1,World.frozen?_alloc_mark w _ _ _ _ 0,World.frozen?_alloc_mark w _ _ _ _ 1,(fJ _ _).alloc (aM _) _,by simp⟩
theorem oF.stay {w W W':World}(h:oF w W)(hb:aj W W'):oF w W' :=
 ⟨(hb.cell (p:=⟨w.heap.size,0,none⟩) h.lt).trans h.c0,(hb.cell (p:=⟨w.heap.size,1,none⟩) h.lt).trans h.c1,(hb.frozen (p:=⟨w.heap.size,0,none⟩) h.lt).trans h.f0,(hb.frozen (p:=⟨w.heap.size,1,none⟩) h.lt).trans h.f1,then_ h.below hb,cB h.lt hb.size⟩
theorem oF.drewN {w W:World}(h:oF w W)(n:Nat):oF w (W.drewN n):=h.stay (iU ⟨n,rfl⟩)
theorem xJ (s:ay)(w:World)(hs:s.size<=2000):
 Calls prog 191 #[.string s] w fun e w'=>e=.returned (Fd.val (Fd.of s.data.toList))∧aj w w':=by
 have HC:=H9 (fun W=>xG s 58 W (by unfold maxLen;omega));have hl:s.data.toList.length=s.size:=by rw[aO];rfl
 have HO:=H9 (Fd.YV s.data.toList);rw[hl] at HO;unfold Fd.cutV at HC;by_cases h0:Fd.at_ 58 s.data.toList=s.size
 . rw[if_pos h0] at HC;have HR:Hid (Fd.of s.data.toList=Fd.bad 5):=by have:=HO.o;rw[if_pos h0] at this;exact this
   clear HO h0 hl;go_enter func191,ntmps191;go_wp2_with fail
   refine(HC.o _).mono ?_;rintro e w1 ⟨rfl,n,hw⟩;have A1:Hid (oF w w1):=by rw[hw];exact(oF.made w _).drewN n
   clear hw HC;go_wp2_with fail
   refine(tY ⟨#[]⟩ w1 (by decide)).mono ?_;rintro e w2 ⟨rfl,hb2⟩;have A2:=H9 (A1.out.stay hb2);have c0:=A2.out.c0;have c1:=A2.out.c1;have f0:=A2.out.f0;have f1:=A2.out.f1
   clear A1 hb2;go_wp2;refine gy (v:=.tuple #[.agg #[.string ⟨#[]⟩,.string ⟨#[]⟩],.int .i64 5]) (by simp[results,results191,go_sem,c0,c1]) rfl ⟨by rw[HR.o];rfl,?_⟩;exact(A2.out.below.setCell (aM _) _).setCell (aM _) _
 . rw[if_neg h0] at HC;have hk:=Fd.U6 58 s.data.toList;rw[hl] at hk;have h1:=HO.o;rw[if_neg h0] at h1;have hlt:Fd.at_ 58 s.data.toList<s.size:=by omega
   clear HO h0 hl hk;generalize Fd.at_ 58 s.data.toList=k at HC h1 hlt;have e1:(s.extract 0 k).data.toList=s.data.toList.take k:=by rw[Lib.extract_data];simp
   have e2:(s.extract (k+1) s.size).data.toList=s.data.toList.drop (k+1):=Lib.extract_to_end s (k+1);rw[<-e1,<-e2] at h1;have z1:(s.extract 0 k).size=k:=by simp;omega
   have z2:(s.extract (k+1) s.size).size<=2000:=by simp;omega
   have HT:=H9 (fun W=>wu (s.extract 0 k) W (by rw[z1];unfold maxLen;omega));have tC:=H9 (fun W=>tY (s.extract (k+1) s.size) W (dG z2 (by decide)));have Am:=H9 (fun W=>lM (s.extract 0 k) W (by omega));have hzv:(⟨(Lib.trimS (s.extract (k+1) s.size).data.toList Ch.ws).toArray⟩:ay).size<=maxLen:=by
    have h1:=vX (s.extract (k+1) s.size).data.toList;rw[Ch.iD] at h1;show(Lib.trimS _ Ch.ws).toArray.size<=maxLen;rw[bM];unfold maxLen;omega
   have HV:=H9 (fun W=>kU ⟨(Lib.trimS (s.extract (k+1) s.size).data.toList Ch.ws).toArray⟩ W hzv);clear e1 e2 z2 hzv;generalize s.extract (k+1) s.size=rest at HC tC HV h1;have hdat:(⟨(Lib.trimS rest.data.toList Ch.ws).toArray⟩:ay).data.toList=Lib.trimS rest.data.toList Ch.ws:=rfl;rw[hdat] at HV;clear hdat;generalize s.extract 0 k=nm at HC HT Am h1 z1;have HO:=H9 h1;clear h1;generalize Lib.trimS rest.data.toList Ch.ws=tv at tC HV HO;cases ht:Ch.isToken nm.data.toList
   . rw[ht] at HT;have HR:Hid (Fd.of s.data.toList=Fd.bad 6):=by have:=HO.o;rw[if_pos ht] at this;exact this
     clear HO ht HV Am;go_enter func191,ntmps191;go_wp2_with fail
     refine(HC.o _).mono ?_;rintro e w1 ⟨rfl,n,hw⟩;have A1:Hid (oF w w1):=by rw[hw];exact(oF.made w _).drewN n
     clear hw HC;go_wp2_with fail
     refine(tC.o _).mono ?_;rintro e w2 ⟨rfl,hb2⟩;have A2:=H9 (A1.out.stay hb2);have c0:=A2.out.c0;have c1:=A2.out.c1;have f0:=A2.out.f0;have f1:=A2.out.f1
     clear A1 hb2 tC;go_wp2_with fail
     refine(HT.o _).mono ?_;rintro e w3 ⟨rfl,hw⟩;subst hw;go_wp2;refine gy (v:=.tuple #[.agg #[.string ⟨#[]⟩,.string ⟨#[]⟩],.int .i64 6]) (by simp[results,results191,go_sem,c0,c1]) rfl ⟨by rw[HR.o];rfl,?_⟩;exact(A2.out.below.setCell (aM _) _).setCell (aM _) _
   . rw[ht] at HT;have h6:=HO.o;rw[if_neg (by rw[ht];simp)] at h6;have yu:=H9 h6;clear HO ht h6;by_cases Yp:40<k
     . have HR:Hid (Fd.of s.data.toList=Fd.bad 4):=by have:=yu.o;rw[if_pos Yp] at this;exact this
       have t40:decide ((nm.size:Int) > 40)=true:=by rw[bR];omega
       clear yu HV Am;go_enter func191,ntmps191;go_wp2_with fail
       refine(HC.o _).mono ?_;rintro e w1 ⟨rfl,n,hw⟩;have A1:Hid (oF w w1):=by rw[hw];exact(oF.made w _).drewN n
       clear hw HC;go_wp2_with fail
       refine(tC.o _).mono ?_;rintro e w2 ⟨rfl,hb2⟩;have A2:=H9 (A1.out.stay hb2);have c0:=A2.out.c0;have c1:=A2.out.c1;have f0:=A2.out.f0;have f1:=A2.out.f1
       clear A1 hb2 tC;go_wp2_with fail
       refine(HT.o _).mono ?_;rintro e w3 ⟨rfl,hw⟩;subst hw;go_wp2;refine gy (v:=.tuple #[.agg #[.string ⟨#[]⟩,.string ⟨#[]⟩],.int .i64 4]) (by simp[results,results191,go_sem,c0,c1]) rfl ⟨by rw[HR.o];rfl,?_⟩;exact(A2.out.below.setCell (aM _) _).setCell (aM _) _
     . have h4:=yu.o;rw[if_neg Yp] at h4;have wz:=H9 h4;clear yu h4;have t40:decide ((nm.size:Int) > 40)=false:=by rw[bQ];omega
       cases hv:Ch.iy tv
       . rw[hv] at HV;have HR:Hid (Fd.of s.data.toList=Fd.bad 3):=by have:=wz.o;rw[if_pos hv] at this;exact this
         clear wz hv Am;go_enter func191,ntmps191;go_wp2_with fail
         refine(HC.o _).mono ?_;rintro e w1 ⟨rfl,n,hw⟩;have A1:Hid (oF w w1):=by rw[hw];exact(oF.made w _).drewN n
         clear hw HC;go_wp2_with fail
         refine(tC.o _).mono ?_;rintro e w2 ⟨rfl,hb2⟩;have A2:=H9 (A1.out.stay hb2);have c0:=A2.out.c0;have c1:=A2.out.c1;have f0:=A2.out.f0;have f1:=A2.out.f1
         clear A1 hb2 tC;go_wp2_with fail
         refine(HT.o _).mono ?_;rintro e w3 ⟨rfl,hw⟩;subst hw;go_wp2_with fail
         refine(HV.o _).mono ?_;rintro e w4 ⟨rfl,hw⟩;subst hw;go_wp2;refine gy (v:=.tuple #[.agg #[.string ⟨#[]⟩,.string ⟨#[]⟩],.int .i64 3]) (by simp[results,results191,go_sem,c0,c1]) rfl ⟨by rw[HR.o];rfl,?_⟩;exact(A2.out.below.setCell (aM _) _).setCell (aM _) _
       . rw[hv] at HV;have h3:=wz.o;rw[if_neg (by rw[hv];simp)] at h3;have HR:=H9 h3;clear wz hv h3;go_enter func191,ntmps191;go_wp2_with fail
         refine(HC.o _).mono ?_;rintro e w1 ⟨rfl,n,hw⟩;have A1:Hid (oF w w1):=by rw[hw];exact(oF.made w _).drewN n
         clear hw HC;go_wp2_with fail
         refine(tC.o _).mono ?_;rintro e w2 ⟨rfl,hb2⟩;have A2:=H9 (A1.out.stay hb2);clear A1 hb2 tC;go_wp2_with fail
         refine(HT.o _).mono ?_;rintro e w3 ⟨rfl,hw⟩;subst hw;go_wp2_with fail
         refine(HV.o _).mono ?_;rintro e w4 ⟨rfl,hw⟩;subst hw;go_wp2_with fail
         refine(Am.o _).mono ?_;rintro e w5 ⟨rfl,hb5⟩;have A5:=H9 (A2.out.stay hb5);have c0:=A5.out.c0;have c1:=A5.out.c1;have f0:=A5.out.f0;have f1:=A5.out.f1
         clear A2 hb5;go_wp2;refine gy (v:=.tuple #[.agg #[.string nm,.string ⟨tv.toArray⟩],.int .i64 0]) (by simp[results,results191,go_sem,c0,c1]) rfl ⟨by rw[HR.o];rfl,?_⟩;exact(A5.out.below.setCell (aM _) _).setCell (aM _) _
structure nV (w:World)(n v:ay)(W:World):Prop where
 c0:W.cell? ⟨w.heap.size,0,none⟩=some (.string n)
 c1:W.cell? ⟨w.heap.size,1,none⟩=some (.string v)
 below:aj w W
 lt:w.heap.size<W.heap.size
theorem nV.made (w:World)(n v:ay)(t:Nat):nV w n v (w.alloc (.cells #[.string n,.string v] t)) :=
 ⟨World.cell?_alloc_mark w _ _ _ 0,World.cell?_alloc_mark w _ _ _ 1,(fJ _ _).alloc (aM _) _,by simp⟩
theorem nV.stay {w W W':World}{n v:ay}(h:nV w n v W)(hb:aj W W'):nV w n v W' :=
 ⟨(hb.cell (p:=⟨w.heap.size,0,none⟩) h.lt).trans h.c0,(hb.cell (p:=⟨w.heap.size,1,none⟩) h.lt).trans h.c1,then_ h.below hb,cB h.lt hb.size⟩
theorem nV.drew {w W:World}{n v:ay}(h:nV w n v W):nV w n v W.drew:=h.stay (gQ _ _)
theorem ug (l:au)(name:ay)(ao:ak)(cap n:Nat)(w:World)(hl:jo w ao cap n (gU l))(hn:l.length=n)(hN:n<=1000000)(hs:∀p∈l,p.1.size<=2000∧p.2.size<=2000)(hnm:name.size<=2000):
 Calls prog 157 #[.slice ao n cap,.string name] w fun e w'=>∃gW cap',e=.returned (.slice gW (Fd.vals name l).length cap')∧gV w' w.heap.size 9 1 gW cap' (Fd.vals name l).length (oI (Fd.vals name l))∧aj w w':=by
 subst hn;obtain⟨i0,hi0,hz0,hz1,hz2⟩:=info_parts D9;have Hi:=H9 hi0;have kK:=H9 hz0;have kH:=H9 hz1;have kL:=H9 hz2
 have H:=H9 hl;have Hs:=H9 hs;have HSn:=H9 (oN name w (by unfold maxLen;omega));clear hl hs hi0 hz0 hz1 hz2;have HX:Hid (∀p:ay,((⟨(Ch.lower p.data.toList).toArray⟩:ay).toList==(⟨(Ch.lower name.data.toList).toArray⟩:ay).toList)=decide (Ch.lower p.data.toList=Ch.lower name.data.toList)):=by
  intro p;rw[Lib.toList_data,Lib.toList_data,aH];simp
 generalize (⟨(Ch.lower name.data.toList).toArray⟩:ay)=sn at HSn HX;go_enter func157,ntmps157;go_wp2_with fail
 refine HSn.o.mono ?_;rintro e w0 ⟨rfl,hb0⟩;have HB0:=H9 hb0;clear hb0 HSn;go_wp2;go_loopw [6,13] (fun v t wr=>∃(k:Nat) (gW:ak) (cap':Nat),k<=l.length∧t=.int .i64 k∧v=.slice gW (Fd.vals name (l.take k)).length cap'∧gV wr w.heap.size 9 1 gW cap' (Fd.vals name (l.take k)).length (oI (Fd.vals name (l.take k)))∧aj w wr) (fun _ t _=>l.length-(intOf t).toNat)
 case atStart=>exact⟨0,none,0,aA _,rfl,rfl,gV.nil _ _ _ _,HB0.o⟩
 case round =>
  obtain⟨k,gW,cap',hk,rfl,rfl,hO,hB⟩:=hrel;have HO:=H9 hO;have HB:=H9 hB
  clear hO hB HB0;have hvl:=Fd.kP name (l.take k);have hvk:(l.take k).length<=k:=dM _ _;by_cases hlt:k<l.length
  . have hpl:0<(gU l).length:=by rw[mW];omega
    obtain⟨bb,oo,rfl,hcs⟩:=H.o.lit hpl;have h1:=hcs _ _ (nY l k hlt).1;have h2:=hcs _ _ (nY l k hlt).2;rw[<-bL] at h2;have hc0:=(HB.o.cell (gq w _ h1)).trans h1;have hc1:=(HB.o.cell (gq w _ h2)).trans h2;clear hcs h1 h2;have HT:Hid (l.take (k+1)=l.take k++[l[k]]):=bO hlt;have hp1:=Hs.o l[k] (aC hlt);have HSp:=H9 (fun W=>oN l[k].1 W (by unfold maxLen;omega));have Am:=H9 (fun W=>lM l[k].2 W (by have:=hp1.2;omega));have hlt':(k:Int)<l.length:=by omega
    have HV:=H9 (Fd.Ic name (l.take k) l[k]);rw[<-HT.o] at HV;generalize l[k]=p at *;have uy:=H9 (HX.o p.1);generalize (⟨(Ch.lower p.1.data.toList).toArray⟩:ay)=sp at HSp uy;generalize Fd.vals name (l.take k)=vs at HO HV hvl;by_cases heq:Ch.lower p.1.data.toList=Ch.lower name.data.toList
    . have hx:=uy.o;rw[aI heq] at hx;have Lg:Hid (Fd.vals name (l.take (k+1))=vs++[p.2]):=by have:=HV.o;rw[if_pos heq] at this;exact this
      clear HV uy heq HX;go_wp2_with fail
      refine(HSp.o _).mono ?_;rintro e w1 ⟨rfl,hb1⟩;have X1:=(nV.made wr p.1 p.2 _).stay hb1;have B1:=H9 (then_ HB.o X1.below);have O1:=H9 (HO.o.stay X1.below);have c1:=X1.c1;clear hb1 X1 hc0 hc1;go_wp2_with fail
      refine(Am.o _).mono ?_;rintro e w2 ⟨rfl,hb2⟩;have HB2:=H9 (then_ B1.out hb2);have BP:=H9 (O1.out.stay hb2);clear hb2 c1 B1 O1;go_wp2_with (at_builtin;refine gT rfl (.tmp 22) (.tmp 26) 134 rfl w.heap.size 9 i0 (.string ⟨#[]⟩) 1 16 underlying134 Hi.o kK.o kH.o kL.o rfl (by decide) rfl (BP.o.alloc _) rfl (jo.made _ _ 1 _ _) rfl (fun u hu=>by simp at hu;subst hu;rfl) (by omega) (by omega) (by have:=HB2.o.size;simp;omega) ?_;intro jQ gX w3 hO3 hG3 _)
      go_roundw
      case rel =>
       have e1:Fd.vals name (l.take (k+1))=vs++[p.2]:=Lg.o;refine⟨k+1,jQ,gX,by omega,by go_num,by rw[e1,aW];rfl,?_,?_⟩
       . rw[e1,aW,vQ];exact hO3
       . exact(HB2.o.alloc HB2.o.size _).grown hG3 (by have:=HB2.o.size;simp;omega) (fun q e=>by
          cases gW with
          | none=>simp[gL] at e
          | some y=>simp only[gL,bU] at e;have:=(BP.o.block y rfl).1;omega)
      case measure=>simp[intOf];omega
    . have hx:=uy.o;rw[aJ heq] at hx;have Lg:Hid (Fd.vals name (l.take (k+1))=vs):=by have:=HV.o;rw[if_neg heq] at this;exact this
      clear HV uy heq HX;go_wp2_with fail
      refine(HSp.o _).mono ?_;rintro e w1 ⟨rfl,hb1⟩;have X1:=(nV.made wr p.1 p.2 _).stay hb1;have B1:=H9 (then_ HB.o X1.below);have O1:=H9 (HO.o.stay X1.below);clear hb1 X1 hc0 hc1;go_wp2;go_roundw
      case rel=>exact⟨k+1,gW,cap',by omega,by go_num,by rw[Lg.o],by rw[Lg.o];exact O1.out,B1.out⟩
      case measure=>simp[intOf];omega
  . obtain rfl:k=l.length:=by omega
    go_wp2;go_ret;have e:l.take l.length=l:=bP;have h1:=HO.o;rw[e] at h1;exact⟨gW,cap',by rw[e];rfl,h1,HB.o⟩
theorem uh (l:au)(name:ay)(ao:ak)(cap n:Nat)(w:World)(hl:jo w ao cap n (gU l))(hn:l.length=n)(hN:n<=1000000)(hs:∀p∈l,p.1.size<=2000∧p.2.size<=2000)(hnm:name.size<=2000):
 Calls prog 117 #[.slice ao n cap,.string name] w fun e w'=>e=.returned (rQ (Fd.one (Fd.vals name l)))∧aj w w':=by
 have HV:=H9 (ug l name ao cap n w hl hn hN hs hnm);have hvl:=Fd.kP name l;rw[hn] at hvl;generalize Fd.vals name l=vs at HV hvl;clear hl hs;rcases vs with _ | ⟨v,_ | ⟨v2,t⟩⟩
 . go_enter func117,ntmps117;go_wp2_with fail
   refine HV.o.mono ?_;rintro e w1 ⟨zU,ow,rfl,hO,hB⟩;have HO:=H9 hO;have HB:=H9 hB
   clear hO hB HV;go_wp2;go_ret2;exact⟨ql (p:=([],10)) rfl rfl,HB.o⟩
 . go_enter func117,ntmps117;go_wp2_with fail
   refine HV.o.mono ?_;rintro e w1 ⟨zU,ow,rfl,hO,hB⟩;have HO:=H9 hO;have HB:=H9 hB
   clear hO hB HV;obtain⟨bb,oo,rfl,hcs⟩:=HO.o.nQ.lit (by simp[oI]);have hc:=hcs 0 (.string v) rfl;rw[bK] at hc;clear hcs;go_wp2;go_ret2;exact⟨ql (p:=(v.data.toList,0)) rfl rfl,HB.o⟩
 . have t0:(((v::v2::t).length:Int)==0)=false:=by rw[aS,aX,aX];omega
   have t1:(((v::v2::t).length:Int)==1)=false:=by rw[aS,aX,aX];omega
   have HR:Hid (Fd.one (v::v2::t)=([],9)):=rfl;generalize v::v2::t=vs at *;generalize vs.length=L at *;go_enter func117,ntmps117;go_wp2_with fail
   refine HV.o.mono ?_;rintro e w1 ⟨zU,ow,rfl,hO,hB⟩;have HO:=H9 hO;have HB:=H9 hB
   clear hO hB HV;go_wp2;go_ret2;exact⟨ql (p:=([],9)) HR.o rfl,HB.o⟩
theorem WC (n v:ay)(w:World)(hn:n.size<=100000)(hv:v.size<=100000):
 Calls prog 147 #[.agg #[.string n,.string v]] w fun e w'=>e=.returned (rQ (Fd.text n.data.toList v.data.toList))∧aj w w':=by
 have HT:=H9 (fun W=>wu n W (by unfold maxLen;omega));have HV:=H9 (fun W=>kU v W (by unfold maxLen;omega));have tC:=H9 (fun W=>tY v W (by omega));have hln:n.data.toList.length=n.size:=by rw[aO];rfl
 have hlv:v.data.toList.length=v.size:=by rw[aO];rfl
 have hof:Fd.text n.data.toList v.data.toList=if Ch.isToken n.data.toList=false then ([],6) else if 40<n.size∨200<n.size+2+v.size then ([],4) else if Ch.iy v.data.toList=false∨Lib.trimS v.data.toList Ch.ws≠v.data.toList then ([],3) else (n.data.toList++[58,32]++v.data.toList,0):=by
  unfold Fd.text;rw[hln,hlv]
 clear hln hlv;have HO:=H9 hof;clear hof;have hsz:(n++⟨#[58,32]⟩++v).size=n.size+2+v.size:=by simp[bN];rfl
 have HE:Hid (n++⟨#[58,32]⟩++v=⟨(n.data.toList++[58,32]++v.data.toList).toArray⟩):=Ch.str_eq (by rw[Ch.data_append,Ch.data_append]);cases ht:Ch.isToken n.data.toList
 . rw[ht] at HT;have HR:Hid (Fd.text n.data.toList v.data.toList=([],6)):=by have:=HO.o;rw[if_pos ht] at this;exact this
   clear HO ht HV tC HE;go_enter func147,ntmps147;go_wp2_with fail
   refine(HT.o _).mono ?_;rintro e w3 ⟨rfl,hw⟩;have hB:=RN ⟨0,hw⟩;clear hw;go_wp2;go_ret2;exact⟨ql HR.o rfl,hB⟩
 . rw[ht] at HT;have h6:=HO.o;rw[if_neg (by rw[ht];simp)] at h6;have yu:=H9 h6;clear HO ht h6;by_cases Yp:40<n.size∨200<n.size+2+v.size
   . have HR:Hid (Fd.text n.data.toList v.data.toList=([],4)):=by have:=yu.o;rw[if_pos Yp] at this;exact this
     clear yu HV tC HE;by_cases h4:40<n.size
     . have t1:decide ((n.size:Int) > 40)=true:=by rw[bR];omega
       go_enter func147,ntmps147;go_wp2_with fail
       refine(HT.o _).mono ?_;rintro e w3 ⟨rfl,hw⟩;have B3:Hid (nV w n v w3):=by rw[hw];exact nV.made w n v _
       clear hw;have c0:=B3.out.c0;go_wp2;go_ret2;exact⟨ql HR.o rfl,B3.out.below⟩
     . have t1:decide ((n.size:Int) > 40)=false:=by rw[bQ];omega
       have t2:decide (((n++⟨#[58,32]⟩++v).size:Int) > 200)=true:=by rw[bR,hsz];omega
       clear hsz;go_enter func147,ntmps147;go_wp2_with fail
       refine(HT.o _).mono ?_;rintro e w3 ⟨rfl,hw⟩;have B3:Hid (nV w n v w3):=by rw[hw];exact nV.made w n v _
       clear hw;have c0:=B3.out.c0;generalize n++⟨#[58,32]⟩++v=tx at *;go_wp2;go_ret2;exact⟨ql HR.o rfl,B3.out.below⟩
   . have h4:=yu.o;rw[if_neg Yp] at h4;have wz:=H9 h4;clear yu h4;have t1:decide ((n.size:Int) > 40)=false:=by rw[bQ];omega
     have t2:decide (((n++⟨#[58,32]⟩++v).size:Int) > 200)=false:=by rw[bQ,hsz];omega
     clear Yp hsz;cases hvi:Ch.iy v.data.toList
     . rw[hvi] at HV;have HR:Hid (Fd.text n.data.toList v.data.toList=([],3)):=by have:=wz.o;rw[if_pos (Or.inl hvi)] at this;exact this
       clear wz hvi tC HE;go_enter func147,ntmps147;go_wp2_with fail
       refine(HT.o _).mono ?_;rintro e w3 ⟨rfl,hw⟩;have B3:Hid (nV w n v w3):=by rw[hw];exact nV.made w n v _
       clear hw;have c0:=B3.out.c0;have c1:=B3.out.c1;generalize n++⟨#[58,32]⟩++v=tx at *;go_wp2_with fail
       refine(HV.o _).mono ?_;rintro e w4 ⟨rfl,hw⟩;subst hw;go_wp2;go_ret2;exact⟨ql HR.o rfl,B3.out.below⟩
     . rw[hvi] at HV;by_cases htr:Lib.trimS v.data.toList Ch.ws=v.data.toList
       . have HR:Hid (Fd.text n.data.toList v.data.toList=(n.data.toList++[58,32]++v.data.toList,0)):=by have:=wz.o;rw[if_neg (by rw[hvi,htr];simp)] at this;exact this
         rw[htr] at tC;have hve:(⟨v.data.toList.toArray⟩:ay)=v:=rfl;rw[hve] at tC;clear wz hvi htr hve;go_enter func147,ntmps147;go_wp2_with fail
         refine(HT.o _).mono ?_;rintro e w3 ⟨rfl,hw⟩;have B3:Hid (nV w n v w3):=by rw[hw];exact nV.made w n v _
         clear hw;have c0:=B3.out.c0;have c1:=B3.out.c1;generalize n++⟨#[58,32]⟩++v=tx at *;go_wp2_with fail
         refine(HV.o _).mono ?_;rintro e w4 ⟨rfl,hw⟩;subst hw;go_wp2;go_region_held3 (fun w'=>w'.cell? ⟨w.heap.size,1,none⟩=some (.string v)) (go_keep) (first | (go_at_call 193;refine(tC.o _).mono ?_;rintro e w5 ⟨rfl,hB⟩;have B5:=H9 (B3.out.drew.stay hB);have c1':=B5.out.c1;clear hB))
         all_goals
          go_wp2;go_ret2;exact⟨ql HR.o (by unfold rQ;rw[<-HE.o];rfl),B5.out.below⟩
       . have HR:Hid (Fd.text n.data.toList v.data.toList=([],3)):=by have:=wz.o;rw[if_pos (Or.inr htr)] at this;exact this
         have hne:((⟨(Lib.trimS v.data.toList Ch.ws).toArray⟩:ay).toList==v.toList)=false:=by
          rw[Lib.toList_data,Lib.toList_data,aS];simpa using htr
         clear wz hvi htr HE;generalize (⟨(Lib.trimS v.data.toList Ch.ws).toArray⟩:ay)=tv at tC hne;go_enter func147,ntmps147;go_wp2_with fail
         refine(HT.o _).mono ?_;rintro e w3 ⟨rfl,hw⟩;have B3:Hid (nV w n v w3):=by rw[hw];exact nV.made w n v _
         clear hw;have c0:=B3.out.c0;have c1:=B3.out.c1;generalize n++⟨#[58,32]⟩++v=tx at *;go_wp2_with fail
         refine(HV.o _).mono ?_;rintro e w4 ⟨rfl,hw⟩;subst hw;go_wp2;go_region_held3 (fun w'=>w'.cell? ⟨w.heap.size,1,none⟩=some (.string v)) (go_keep) (first | (go_at_call 193;refine(tC.o _).mono ?_;rintro e w5 ⟨rfl,hB⟩;have B5:=H9 (B3.out.drew.stay hB);have c1':=B5.out.c1;clear hB))
         all_goals
          go_wp2;go_ret2;exact⟨ql HR.o rfl,B5.out.below⟩
def XQ:ay:=⟨#[72,111,115,116]⟩
def XR:ay:=⟨#[67,111,110,116,101,110,116,45,76,101,110,103,116,104]⟩
def XT:ay:=⟨#[84,114,97,110,115,102,101,114,45,69,110,99,111,100,105,110,103]⟩
theorem Uj (l:au):Fd.vals XQ l=Fd.vals rR l:=Fd.lg _ _ l (by decide)
theorem Uk (l:au):Fd.vals XR l=Fd.vals qp l:=Fd.lg _ _ l (by decide)
theorem Ul (l:au):Fd.vals XT l=Fd.vals qw l:=Fd.lg _ _ l (by decide)
theorem Um (l:au)(name:ay)(ao:ak)(cap n:Nat)(w:World)(hl:jo w ao cap n (gU l))(hn:l.length=n)(hN:n<=1000000)(hs:∀p∈l,p.1.size<=2000∧p.2.size<=2000)(hnm:name.size<=2000):
 Calls prog 189 #[.slice ao n cap,.string name] w fun e w'=>e=.returned (.int .i64 ((Fd.vals name l).length:Int))∧aj w w':=by
 have HV:=H9 (ug l name ao cap n w hl hn hN hs hnm);generalize (Fd.vals name l)=vs at HV ⊢;go_enter func189,ntmps189;go_wp2_with (go_at_call 157;refine HV.o.mono ?_;rintro e w1 ⟨zU,ow,rfl,hO,hB⟩;have HB:=H9 hB;clear hO hB)
 go_ret;exact⟨rfl,HB.o⟩
theorem Pw (gh mi:Nat)(l:au)(fo:ak)(gM n:Nat)(w:World)(c2:w.cell? ⟨gh,2,none⟩=some (.int .i64 (mi:Int)))(c3:w.cell? ⟨gh,3,none⟩=some (.slice fo n gM))(hl:jo w fo gM n (gU l))(hn:l.length=n)(hN:n<=16)(hs:∀p∈l,p.1.size<=2000∧p.2.size<=2000):
 Calls prog 190 #[.pointer (some ⟨gh,0,none⟩)] w fun e w'=>e=.returned (Rq.lenVal (Rq.zK mi (Rq.lists (Fd.vals qp l)) (Rq.lists (Fd.vals qw l))))∧aj w w':=by
 have H1:=H9 (ug l XT fo gM n w hl hn (by omega) hs (by decide));have H2:=H9 (fun W (hW:aj w W)=>ug l XR fo gM n W (hl.stay hW) hn (by omega) hs (by decide));rw[Ul] at H1;simp only[Uk] at H2;have HC:=H9 (fun W (hW:aj w W)=>And.intro ((hW.cell (gq w _ c2)).trans c2) ((hW.cell (gq w _ c3)).trans c3));have hm1:∀v∈Fd.vals qw l,v.size<=2000:=fun v hv=>by
  obtain⟨p,hp,rfl⟩:=Fd.wD hv;exact(hs p hp).2
 have hm2:∀v∈Fd.vals qp l,v.size<=2000:=fun v hv=>by
  obtain⟨p,hp,rfl⟩:=Fd.wD hv;exact(hs p hp).2
 have hv1:=Fd.kP qw l;have hv2:=Fd.kP qp l;generalize Fd.vals qw l=cs at H1 hm1 hv1 ⊢;generalize Fd.vals qp l=vs at H2 hm2 hv2 ⊢;have Xk:=H9 hm1;have U0:=H9 hm2
 have hcl:cs.length<=16:=by omega
 have hvl:vs.length<=16:=by omega
 clear hm1 hm2 hl hs hv1 hv2 c2 hn hN;unfold XT at H1;simp only[XR] at H2;have Z8:Hid (Rq.zK mi (Rq.lists vs) (Rq.lists cs)=if Rq.lists cs≠[] then (if Rq.lists vs≠[]∨mi=0 then .inl 12 else if (Rq.lists cs).length≠1∨Ch.lower ((Rq.lists cs).headD [])≠Rq.pJ then .inl 11 else .inr (-1)) else Rq.sN (Rq.lists vs)):=rfl;generalize Rq.zK mi (Rq.lists vs) (Rq.lists cs)=R at Z8 ⊢;have hlc:∀l:List ay,(Rq.lists l).length=l.length:=fun l=>by simp[Rq.lists]
 have hln:∀l:List ay,Rq.lists l≠[]<->0<l.length:=fun l=>by rw[<-hlc l];exact List.length_pos_iff.symm
 by_cases hc0:cs.length=0
 . have t0:((cs.length:Int)==0)=true:=aT.2 (by omega);have HS:=H9 (fun ao cap W h=>Fq vs ao cap W h (by omega) U0.o);have hR:R=Rq.sN (Rq.lists vs):=by rw[Z8.o,if_neg (by rw[hln];omega)]
   subst hR;generalize Rq.sN (Rq.lists vs)=R at HS ⊢;generalize cs.length=nc at *;clear hc0 Z8 hlc hln;go_enter func190,ntmps190;go_wp2_with fail
   refine H1.o.mono ?_;rintro e w1 ⟨zU,ow,rfl,qz,hB1⟩;have CK:=H9 qz;have HB1:=H9 hB1
   have c3':=(HC.o w1 hB1).2;clear qz hB1;go_wp2_with fail
   refine(H2.o w1 HB1.o).mono ?_;rintro e w2 ⟨jy,cap2,rfl,hO2,hB2⟩;have Lg:=H9 hO2.nQ;have Z9:=H9 (CK.o.nQ.stay hB2);have HB2:=H9 (then_ HB1.o hB2)
   have c2':=(HC.o w2 HB2.o).1;clear hO2 hB2 c3' c3 H1 H2;cases R with
   | inl c =>
     unfold Rq.lenVal at HS;go_wp2_with fail
     refine(HS.o _ _ _ Lg.o).mono ?_;rintro e w3 ⟨rfl,hw⟩;subst hw;go_wp2;go_ret2;exact⟨rfl,HB2.o⟩
   | inr k =>
     unfold Rq.lenVal at HS;go_wp2_with fail
     refine(HS.o _ _ _ Lg.o).mono ?_;rintro e w3 ⟨rfl,hw⟩;subst hw;go_wp2;go_ret2;exact⟨rfl,HB2.o⟩
 . have t0:((cs.length:Int)==0)=false:=aS.2 (by omega);have hR:=Z8.o;rw[if_pos ((hln cs).2 (by omega))] at hR;by_cases hv0:0<vs.length
   . have tv:decide ((vs.length:Int) > 0)=true:=aI (by omega);rw[if_pos (Or.inl ((hln vs).2 hv0))] at hR;subst hR;clear hc0 Z8 hlc hln;go_enter func190,ntmps190;go_wp2_with fail
     refine H1.o.mono ?_;rintro e w1 ⟨zU,ow,rfl,qz,hB1⟩;have CK:=H9 qz;have HB1:=H9 hB1
     have c3':=(HC.o w1 hB1).2;clear qz hB1;go_wp2_with fail
     refine(H2.o w1 HB1.o).mono ?_;rintro e w2 ⟨jy,cap2,rfl,hO2,hB2⟩;have Lg:=H9 hO2.nQ;have Z9:=H9 (CK.o.nQ.stay hB2);have HB2:=H9 (then_ HB1.o hB2)
     have c2':=(HC.o w2 HB2.o).1;clear hO2 hB2 c3' c3 H1 H2;go_wp2;go_ret2;exact⟨rfl,HB2.o⟩
   . have tv:decide ((vs.length:Int) > 0)=false:=aJ (by omega);by_cases hm0:mi=0
     . have tm:((mi:Int)==0)=true:=aT.2 (by omega);rw[if_pos (Or.inr hm0)] at hR;subst hR;generalize vs.length=nv at *;clear hc0 Z8 hlc hln hm0;go_enter func190,ntmps190;go_wp2_with fail
       refine H1.o.mono ?_;rintro e w1 ⟨zU,ow,rfl,qz,hB1⟩;have CK:=H9 qz;have HB1:=H9 hB1
       have c3':=(HC.o w1 hB1).2;clear qz hB1;go_wp2_with fail
       refine(H2.o w1 HB1.o).mono ?_;rintro e w2 ⟨jy,cap2,rfl,hO2,hB2⟩;have Lg:=H9 hO2.nQ;have Z9:=H9 (CK.o.nQ.stay hB2);have HB2:=H9 (then_ HB1.o hB2)
       have c2':=(HC.o w2 HB2.o).1;clear hO2 hB2 c3' c3 H1 H2;go_wp2;go_ret2;exact⟨rfl,HB2.o⟩
     . have tm:((mi:Int)==0)=false:=aS.2 (by omega);rw[if_neg (fun e=>by rcases e with e | e;exact hv0 ((hln vs).1 e);exact hm0 e)] at hR;by_cases hc1:1<cs.length
       . have t1:decide ((cs.length:Int) > 1)=true:=aI (by omega);rw[if_pos (Or.inl (by rw[hlc];omega))] at hR;subst hR;generalize vs.length=nv at *;clear hc0 Z8 hlc hln hm0;go_enter func190,ntmps190;go_wp2_with fail
         refine H1.o.mono ?_;rintro e w1 ⟨zU,ow,rfl,qz,hB1⟩;have CK:=H9 qz;have HB1:=H9 hB1
         have c3':=(HC.o w1 hB1).2;clear qz hB1;go_wp2_with fail
         refine(H2.o w1 HB1.o).mono ?_;rintro e w2 ⟨jy,cap2,rfl,hO2,hB2⟩;have Lg:=H9 hO2.nQ;have Z9:=H9 (CK.o.nQ.stay hB2);have HB2:=H9 (then_ HB1.o hB2)
         have c2':=(HC.o w2 HB2.o).1;clear hO2 hB2 c3' c3 H1 H2;go_wp2;go_ret2;exact⟨rfl,HB2.o⟩
       . have t1:decide ((cs.length:Int) > 1)=false:=aJ (by omega);have acV:0<cs.length:=by omega
         have hhd:(Rq.lists cs).headD []=cs[0].data.toList:=by
          cases cs with
          | nil=>simp at acV
          | cons v r=>rfl
         have ZG:=H9 (zo cs 0 acV);have hsz:=Xk.o cs[0] (aC acV);rw[hhd,hlc] at hR;generalize cs[0]=x at *;have sS:=H9 (fun W=>oN x W (by unfold maxLen;omega));have hcp:(Rq.lists cs).length=1:=by rw[hlc];omega
         by_cases hch:Ch.lower x.data.toList=Rq.pJ
         . rw[if_neg (fun e=>by rcases e with e | e;exact e (by omega);exact e hch)] at hR;subst hR;rw[hch] at sS;generalize vs.length=nv at *;clear hc0 Z8 hlc hln hm0 hhd hcp hch;go_enter func190,ntmps190;go_wp2_with fail
           refine H1.o.mono ?_;rintro e w1 ⟨zU,ow,rfl,qz,hB1⟩;have CK:=H9 qz;have HB1:=H9 hB1
           have c3':=(HC.o w1 hB1).2;clear qz hB1;go_wp2_with fail
           refine(H2.o w1 HB1.o).mono ?_;rintro e w2 ⟨jy,cap2,rfl,hO2,hB2⟩;have Lg:=H9 hO2.nQ;have Z9:=H9 (CK.o.nQ.stay hB2);have HB2:=H9 (then_ HB1.o hB2)
           have c2':=(HC.o w2 HB2.o).1;clear hO2 hB2 c3' c3 H1 H2;obtain⟨bb,oo,rfl,hcc⟩:=Z9.o.lit (by rw[sI];omega);have x0:w2.cell? ⟨bb,oo,none⟩=some (.string x):=by have:=hcc 0 _ ZG.o;simpa using this
           have hcap:=Z9.o.1;clear hcc;go_wp2_with fail
           refine(sS.o _).mono ?_;rintro e w3 ⟨rfl,hb3⟩;have HB3:=H9 (then_ HB2.o hb3);clear hb3;go_wp2;go_ret2;exact⟨rfl,HB3.o⟩
         . rw[if_pos (Or.inr hch)] at hR;subst hR;have hne:((⟨(Ch.lower x.data.toList).toArray⟩:ay).toList==[99,104,117,110,107,101,100])=false:=by
            rw[Lib.toList_data,aS];exact hch
           generalize (⟨(Ch.lower x.data.toList).toArray⟩:ay)=lx at sS hne;generalize vs.length=nv at *;clear hc0 Z8 hlc hln hm0 hhd hcp hch;go_enter func190,ntmps190;go_wp2_with fail
           refine H1.o.mono ?_;rintro e w1 ⟨zU,ow,rfl,qz,hB1⟩;have CK:=H9 qz;have HB1:=H9 hB1
           have c3':=(HC.o w1 hB1).2;clear qz hB1;go_wp2_with fail
           refine(H2.o w1 HB1.o).mono ?_;rintro e w2 ⟨jy,cap2,rfl,hO2,hB2⟩;have Lg:=H9 hO2.nQ;have Z9:=H9 (CK.o.nQ.stay hB2);have HB2:=H9 (then_ HB1.o hB2)
           have c2':=(HC.o w2 HB2.o).1;clear hO2 hB2 c3' c3 H1 H2;obtain⟨bb,oo,rfl,hcc⟩:=Z9.o.lit (by rw[sI];omega);have x0:w2.cell? ⟨bb,oo,none⟩=some (.string x):=by have:=hcc 0 _ ZG.o;simpa using this
           have hcap:=Z9.o.1;clear hcc;go_wp2_with fail
           refine(sS.o _).mono ?_;rintro e w3 ⟨rfl,hb3⟩;have HB3:=H9 (then_ HB2.o hb3);clear hb3;go_wp2;go_ret2;exact⟨rfl,HB3.o⟩
end Go.Proofs.YtjmndjmhjleabaaGreatDoor