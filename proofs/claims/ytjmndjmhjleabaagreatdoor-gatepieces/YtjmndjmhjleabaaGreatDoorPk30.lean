/- Small texts, one behind the other: FdParse, FdBox, FdAll, FdOne, FdText, RqLen. -/
import Derived.Test.YtjmndjmhjleabaaGreatDoorPk19
import Derived.Deep.RegionHeld3
import Derived.Test.YtjmndjmhjleabaaGreatDoorPk5
import Derived.Test.YtjmndjmhjleabaaGreatDoorPk22
import Derived.Test.YtjmndjmhjleabaaGreatDoorPk4
import Derived.Test.YtjmndjmhjleabaaGreatDoorPk1
import Derived.Test.YtjmndjmhjleabaaGreatDoorRqNum
set_option maxHeartbeats 2000000
set_option maxRecDepth 100000
open Go.Proofs.Tryz
namespace Go.Proofs.YtjmndjmhjleabaaGreatDoor
open Go.RowKit
structure iY (w W:World):Prop where
 c0:W.cell? ⟨w.heap.size,0,none⟩=some (.string ⟨#[]⟩)
 c1:W.cell? ⟨w.heap.size,1,none⟩=some (.string ⟨#[]⟩)
 f0:W.frozen? ⟨w.heap.size,0,none⟩=false
 f1:W.frozen? ⟨w.heap.size,1,none⟩=false
 below:Below w.heap.size w W
 lt:w.heap.size<W.heap.size
theorem iY.made (w:World)(t:Nat):iY w (w.alloc (.cells #[.string ⟨#[]⟩,.string ⟨#[]⟩] t)) :=
 ⟨World.cell?_alloc_mark w _ _ _ 0,World.cell?_alloc_mark w _ _ _ 1,World.frozen?_alloc_mark w _ _ _ _ 0,World.frozen?_alloc_mark w _ _ _ _ 1,(Below.refl _ _).alloc (Nat.le_refl _) _,by simp⟩
theorem iY.stay {w W W':World}(h:iY w W)(hb:Below W.heap.size W W'):iY w W' :=
 ⟨(hb.cell (p:=⟨w.heap.size,0,none⟩) h.lt).trans h.c0,(hb.cell (p:=⟨w.heap.size,1,none⟩) h.lt).trans h.c1,(hb.frozen (p:=⟨w.heap.size,0,none⟩) h.lt).trans h.f0,(hb.frozen (p:=⟨w.heap.size,1,none⟩) h.lt).trans h.f1,then_ h.below hb,Nat.lt_of_lt_of_le h.lt hb.size⟩
theorem iY.drewN {w W:World}(h:iY w W)(n:Nat):iY w (W.drewN n):=h.stay (bK ⟨n,rfl⟩)
theorem pO (s:ByteArray)(w:World)(hs:s.size<=2000):
 Calls prog 191 #[.string s] w fun e w'=>e=.returned (Fd.val (Fd.of s.data.toList))∧Below w.heap.size w w':=by
 have HC:=H9 (fun W=>pI s 58 W (by unfold maxLen;omega));have hl:s.data.toList.length=s.size:=by rw[Array.length_toList];rfl
 have HO:=H9 (Fd.Rn s.data.toList);rw[hl] at HO;unfold Fd.cutV at HC;by_cases h0:Fd.at_ 58 s.data.toList=s.size
 . rw[if_pos h0] at HC;have HR:Hid (Fd.of s.data.toList=Fd.bad 5):=by have:=HO.o;rw[if_pos h0] at this;exact this
   clear HO h0 hl;go_enter func191,ntmps191;go_wp2_with fail
   refine(HC.o _).mono ?_;rintro e w1 ⟨rfl,n,hw⟩;have A1:Hid (iY w w1):=by rw[hw];exact(iY.made w _).drewN n
   clear hw HC;go_wp2_with fail
   refine(l7 ⟨#[]⟩ w1 (by decide)).mono ?_;rintro e w2 ⟨rfl,hb2⟩;have A2:=H9 (A1.out.stay hb2);have c0:=A2.out.c0;have c1:=A2.out.c1;have f0:=A2.out.f0;have f1:=A2.out.f1
   clear A1 hb2;go_wp2;refine bodyPost_ret (v:=.tuple #[.agg #[.string ⟨#[]⟩,.string ⟨#[]⟩],.int .i64 5]) (by simp[results,results191,go_sem,c0,c1]) rfl ⟨by rw[HR.o];rfl,?_⟩;exact(A2.out.below.setCell (Nat.le_refl _) _).setCell (Nat.le_refl _) _
 . rw[if_neg h0] at HC;have hk:=Fd.Tp 58 s.data.toList;rw[hl] at hk;have h1:=HO.o;rw[if_neg h0] at h1;have hlt:Fd.at_ 58 s.data.toList<s.size:=by omega
   clear HO h0 hl hk;generalize Fd.at_ 58 s.data.toList=k at HC h1 hlt;have e1:(s.extract 0 k).data.toList=s.data.toList.take k:=by rw[Lib.extract_data];simp
   have e2:(s.extract (k+1) s.size).data.toList=s.data.toList.drop (k+1):=Lib.extract_to_end s (k+1);rw[<-e1,<-e2] at h1;have z1:(s.extract 0 k).size=k:=by simp;omega
   have z2:(s.extract (k+1) s.size).size<=2000:=by simp;omega
   have HT:=H9 (fun W=>oq (s.extract 0 k) W (by rw[z1];unfold maxLen;omega));have vT:=H9 (fun W=>l7 (s.extract (k+1) s.size) W (Nat.le_trans z2 (by decide)));have sV:=H9 (fun W=>fG (s.extract 0 k) W (by omega));have hzv:(⟨(Lib.trimS (s.extract (k+1) s.size).data.toList Ch.ws).toArray⟩:ByteArray).size<=maxLen:=by
    have h1:=rF (s.extract (k+1) s.size).data.toList;rw[Ch.bC] at h1;show(Lib.trimS _ Ch.ws).toArray.size<=maxLen;rw[List.size_toArray];unfold maxLen;omega
   have HV:=H9 (fun W=>dW ⟨(Lib.trimS (s.extract (k+1) s.size).data.toList Ch.ws).toArray⟩ W hzv);clear e1 e2 z2 hzv;generalize s.extract (k+1) s.size=rest at HC vT HV h1;have hdat:(⟨(Lib.trimS rest.data.toList Ch.ws).toArray⟩:ByteArray).data.toList=Lib.trimS rest.data.toList Ch.ws:=rfl;rw[hdat] at HV;clear hdat;generalize s.extract 0 k=nm at HC HT sV h1 z1;have HO:=H9 h1;clear h1;generalize Lib.trimS rest.data.toList Ch.ws=tv at vT HV HO;cases ht:Ch.isToken nm.data.toList
   . rw[ht] at HT;have HR:Hid (Fd.of s.data.toList=Fd.bad 6):=by have:=HO.o;rw[if_pos ht] at this;exact this
     clear HO ht HV sV;go_enter func191,ntmps191;go_wp2_with fail
     refine(HC.o _).mono ?_;rintro e w1 ⟨rfl,n,hw⟩;have A1:Hid (iY w w1):=by rw[hw];exact(iY.made w _).drewN n
     clear hw HC;go_wp2_with fail
     refine(vT.o _).mono ?_;rintro e w2 ⟨rfl,hb2⟩;have A2:=H9 (A1.out.stay hb2);have c0:=A2.out.c0;have c1:=A2.out.c1;have f0:=A2.out.f0;have f1:=A2.out.f1
     clear A1 hb2 vT;go_wp2_with fail
     refine(HT.o _).mono ?_;rintro e w3 ⟨rfl,hw⟩;subst hw;go_wp2;refine bodyPost_ret (v:=.tuple #[.agg #[.string ⟨#[]⟩,.string ⟨#[]⟩],.int .i64 6]) (by simp[results,results191,go_sem,c0,c1]) rfl ⟨by rw[HR.o];rfl,?_⟩;exact(A2.out.below.setCell (Nat.le_refl _) _).setCell (Nat.le_refl _) _
   . rw[ht] at HT;have h6:=HO.o;rw[if_neg (by rw[ht];simp)] at h6;have D6:=H9 h6;clear HO ht h6;by_cases UJ:40<k
     . have HR:Hid (Fd.of s.data.toList=Fd.bad 4):=by have:=D6.o;rw[if_pos UJ] at this;exact this
       have t40:decide ((nm.size:Int) > 40)=true:=by rw[decide_eq_true_eq];omega
       clear D6 HV sV;go_enter func191,ntmps191;go_wp2_with fail
       refine(HC.o _).mono ?_;rintro e w1 ⟨rfl,n,hw⟩;have A1:Hid (iY w w1):=by rw[hw];exact(iY.made w _).drewN n
       clear hw HC;go_wp2_with fail
       refine(vT.o _).mono ?_;rintro e w2 ⟨rfl,hb2⟩;have A2:=H9 (A1.out.stay hb2);have c0:=A2.out.c0;have c1:=A2.out.c1;have f0:=A2.out.f0;have f1:=A2.out.f1
       clear A1 hb2 vT;go_wp2_with fail
       refine(HT.o _).mono ?_;rintro e w3 ⟨rfl,hw⟩;subst hw;go_wp2;refine bodyPost_ret (v:=.tuple #[.agg #[.string ⟨#[]⟩,.string ⟨#[]⟩],.int .i64 4]) (by simp[results,results191,go_sem,c0,c1]) rfl ⟨by rw[HR.o];rfl,?_⟩;exact(A2.out.below.setCell (Nat.le_refl _) _).setCell (Nat.le_refl _) _
     . have h4:=D6.o;rw[if_neg UJ] at h4;have zG:=H9 h4;clear D6 h4;have t40:decide ((nm.size:Int) > 40)=false:=by rw[decide_eq_false_iff_not];omega
       cases hv:Ch.aP tv
       . rw[hv] at HV;have HR:Hid (Fd.of s.data.toList=Fd.bad 3):=by have:=zG.o;rw[if_pos hv] at this;exact this
         clear zG hv sV;go_enter func191,ntmps191;go_wp2_with fail
         refine(HC.o _).mono ?_;rintro e w1 ⟨rfl,n,hw⟩;have A1:Hid (iY w w1):=by rw[hw];exact(iY.made w _).drewN n
         clear hw HC;go_wp2_with fail
         refine(vT.o _).mono ?_;rintro e w2 ⟨rfl,hb2⟩;have A2:=H9 (A1.out.stay hb2);have c0:=A2.out.c0;have c1:=A2.out.c1;have f0:=A2.out.f0;have f1:=A2.out.f1
         clear A1 hb2 vT;go_wp2_with fail
         refine(HT.o _).mono ?_;rintro e w3 ⟨rfl,hw⟩;subst hw;go_wp2_with fail
         refine(HV.o _).mono ?_;rintro e w4 ⟨rfl,hw⟩;subst hw;go_wp2;refine bodyPost_ret (v:=.tuple #[.agg #[.string ⟨#[]⟩,.string ⟨#[]⟩],.int .i64 3]) (by simp[results,results191,go_sem,c0,c1]) rfl ⟨by rw[HR.o];rfl,?_⟩;exact(A2.out.below.setCell (Nat.le_refl _) _).setCell (Nat.le_refl _) _
       . rw[hv] at HV;have h3:=zG.o;rw[if_neg (by rw[hv];simp)] at h3;have HR:=H9 h3;clear zG hv h3;go_enter func191,ntmps191;go_wp2_with fail
         refine(HC.o _).mono ?_;rintro e w1 ⟨rfl,n,hw⟩;have A1:Hid (iY w w1):=by rw[hw];exact(iY.made w _).drewN n
         clear hw HC;go_wp2_with fail
         refine(vT.o _).mono ?_;rintro e w2 ⟨rfl,hb2⟩;have A2:=H9 (A1.out.stay hb2);clear A1 hb2 vT;go_wp2_with fail
         refine(HT.o _).mono ?_;rintro e w3 ⟨rfl,hw⟩;subst hw;go_wp2_with fail
         refine(HV.o _).mono ?_;rintro e w4 ⟨rfl,hw⟩;subst hw;go_wp2_with fail
         refine(sV.o _).mono ?_;rintro e w5 ⟨rfl,hb5⟩;have A5:=H9 (A2.out.stay hb5);have c0:=A5.out.c0;have c1:=A5.out.c1;have f0:=A5.out.f0;have f1:=A5.out.f1
         clear A2 hb5;go_wp2;refine bodyPost_ret (v:=.tuple #[.agg #[.string nm,.string ⟨tv.toArray⟩],.int .i64 0]) (by simp[results,results191,go_sem,c0,c1]) rfl ⟨by rw[HR.o];rfl,?_⟩;exact(A5.out.below.setCell (Nat.le_refl _) _).setCell (Nat.le_refl _) _
structure iF (w:World)(n v:ByteArray)(W:World):Prop where
 c0:W.cell? ⟨w.heap.size,0,none⟩=some (.string n)
 c1:W.cell? ⟨w.heap.size,1,none⟩=some (.string v)
 below:Below w.heap.size w W
 lt:w.heap.size<W.heap.size
theorem iF.made (w:World)(n v:ByteArray)(t:Nat):iF w n v (w.alloc (.cells #[.string n,.string v] t)) :=
 ⟨World.cell?_alloc_mark w _ _ _ 0,World.cell?_alloc_mark w _ _ _ 1,(Below.refl _ _).alloc (Nat.le_refl _) _,by simp⟩
theorem iF.stay {w W W':World}{n v:ByteArray}(h:iF w n v W)(hb:Below W.heap.size W W'):iF w n v W' :=
 ⟨(hb.cell (p:=⟨w.heap.size,0,none⟩) h.lt).trans h.c0,(hb.cell (p:=⟨w.heap.size,1,none⟩) h.lt).trans h.c1,then_ h.below hb,Nat.lt_of_lt_of_le h.lt hb.size⟩
theorem iF.drew {w W:World}{n v:ByteArray}(h:iF w n v W):iF w n v W.drew:=h.stay (aA _ _)
theorem mh (l:List (ByteArray×ByteArray))(name:ByteArray)(ao:Option Addr)(cap n:Nat)(w:World)(hl:cu w ao cap n (aB l))(hn:l.length=n)(hN:n<=1000000)(hs:∀p∈l,p.1.size<=2000∧p.2.size<=2000)(hnm:name.size<=2000):
 Calls prog 157 #[.slice ao n cap,.string name] w fun e w'=>∃aD cap',e=.returned (.slice aD (Fd.vals name l).length cap')∧aC w' w.heap.size 9 1 aD cap' (Fd.vals name l).length (vR (Fd.vals name l))∧Below w.heap.size w w':=by
 subst hn;obtain⟨i0,hi0,hz0,hz1,hz2⟩:=info_parts Ow;have Hi:=H9 hi0;have gQ:=H9 hz0;have gK:=H9 hz1;have gT:=H9 hz2
 have H:=H9 hl;have Hs:=H9 hs;have Zy:=H9 (jf name w (by unfold maxLen;omega));clear hl hs hi0 hz0 hz1 hz2;have HX:Hid (∀p:ByteArray,((⟨(Ch.lower p.data.toList).toArray⟩:ByteArray).toList==(⟨(Ch.lower name.data.toList).toArray⟩:ByteArray).toList)=decide (Ch.lower p.data.toList=Ch.lower name.data.toList)):=by
  intro p;rw[Lib.toList_data,Lib.toList_data,Bool.eq_iff_iff];simp
 generalize (⟨(Ch.lower name.data.toList).toArray⟩:ByteArray)=sn at Zy HX;go_enter func157,ntmps157;go_wp2_with fail
 refine Zy.o.mono ?_;rintro e w0 ⟨rfl,hb0⟩;have HB0:=H9 hb0;clear hb0 Zy;go_wp2;go_loopw [6,13] (fun v t wr=>∃(k:Nat) (aD:Option Addr) (cap':Nat),k<=l.length∧t=.int .i64 k∧v=.slice aD (Fd.vals name (l.take k)).length cap'∧aC wr w.heap.size 9 1 aD cap' (Fd.vals name (l.take k)).length (vR (Fd.vals name (l.take k)))∧Below w.heap.size w wr) (fun _ t _=>l.length-(intOf t).toNat)
 case atStart=>exact⟨0,none,0,Nat.zero_le _,rfl,rfl,aC.nil _ _ _ _,HB0.o⟩
 case round =>
  obtain⟨k,aD,cap',hk,rfl,rfl,hO,hB⟩:=hrel;have HO:=H9 hO;have HB:=H9 hB
  clear hO hB HB0;have hvl:=Fd.lF name (l.take k);have hvk:(l.take k).length<=k:=List.length_take_le _ _;by_cases hlt:k<l.length
  . have hpl:0<(aB l).length:=by rw[iI];omega
    obtain⟨bb,oo,rfl,hcs⟩:=H.o.lit hpl;have h1:=hcs _ _ (kG l k hlt).1;have h2:=hcs _ _ (kG l k hlt).2;rw[<-Nat.add_assoc] at h2;have hc0:=(HB.o.cell (World.block_lt_of_cell? w _ h1)).trans h1;have hc1:=(HB.o.cell (World.block_lt_of_cell? w _ h2)).trans h2;clear hcs h1 h2;have HT:Hid (l.take (k+1)=l.take k++[l[k]]):=List.take_succ_eq_append_getElem hlt;have hp1:=Hs.o l[k] (List.getElem_mem hlt);have Zz:=H9 (fun W=>jf l[k].1 W (by unfold maxLen;omega));have sV:=H9 (fun W=>fG l[k].2 W (by have:=hp1.2;omega));have hlt':(k:Int)<l.length:=by omega
    have HV:=H9 (Fd.KJ name (l.take k) l[k]);rw[<-HT.o] at HV;generalize l[k]=p at *;have qg:=H9 (HX.o p.1);generalize (⟨(Ch.lower p.1.data.toList).toArray⟩:ByteArray)=sp at Zz qg;generalize Fd.vals name (l.take k)=vs at HO HV hvl;by_cases heq:Ch.lower p.1.data.toList=Ch.lower name.data.toList
    . have hx:=qg.o;rw[decide_eq_true heq] at hx;have M8:Hid (Fd.vals name (l.take (k+1))=vs++[p.2]):=by have:=HV.o;rw[if_pos heq] at this;exact this
      clear HV qg heq HX;go_wp2_with fail
      refine(Zz.o _).mono ?_;rintro e w1 ⟨rfl,hb1⟩;have X1:=(iF.made wr p.1 p.2 _).stay hb1;have B1:=H9 (then_ HB.o X1.below);have O1:=H9 (HO.o.stay X1.below);have c1:=X1.c1;clear hb1 X1 hc0 hc1;go_wp2_with fail
      refine(sV.o _).mono ?_;rintro e w2 ⟨rfl,hb2⟩;have HB2:=H9 (then_ B1.out hb2);have Ca:=H9 (O1.out.stay hb2);clear hb2 c1 B1 O1;go_wp2_with (at_builtin;refine aK rfl (.tmp 22) (.tmp 26) 134 rfl w.heap.size 9 i0 (.string ⟨#[]⟩) 1 16 underlying134 Hi.o gQ.o gK.o gT.o rfl (by decide) rfl (Ca.o.alloc _) rfl (cu.made _ _ 1 _ _) rfl (fun u hu=>by simp at hu;subst hu;rfl) (by omega) (by omega) (by have:=HB2.o.size;simp;omega) ?_;intro fu aI w3 hO3 hG3 _)
      go_roundw
      case rel =>
       have e1:Fd.vals name (l.take (k+1))=vs++[p.2]:=M8.o;refine⟨k+1,fu,aI,by omega,by go_num,by rw[e1,List.length_append];rfl,?_,?_⟩
       . rw[e1,List.length_append,C8];exact hO3
       . exact(HB2.o.alloc HB2.o.size _).grown hG3 (by have:=HB2.o.size;simp;omega) (fun q e=>by
          cases aD with
          | none=>simp[au] at e
          | some y=>simp only[au,Option.some.injEq] at e;have:=(Ca.o.block y rfl).1;omega)
      case measure=>simp[intOf];omega
    . have hx:=qg.o;rw[decide_eq_false heq] at hx;have M8:Hid (Fd.vals name (l.take (k+1))=vs):=by have:=HV.o;rw[if_neg heq] at this;exact this
      clear HV qg heq HX;go_wp2_with fail
      refine(Zz.o _).mono ?_;rintro e w1 ⟨rfl,hb1⟩;have X1:=(iF.made wr p.1 p.2 _).stay hb1;have B1:=H9 (then_ HB.o X1.below);have O1:=H9 (HO.o.stay X1.below);clear hb1 X1 hc0 hc1;go_wp2;go_roundw
      case rel=>exact⟨k+1,aD,cap',by omega,by go_num,by rw[M8.o],by rw[M8.o];exact O1.out,B1.out⟩
      case measure=>simp[intOf];omega
  . obtain rfl:k=l.length:=by omega
    go_wp2;go_ret;have e:l.take l.length=l:=List.take_length;have h1:=HO.o;rw[e] at h1;exact⟨aD,cap',by rw[e];rfl,h1,HB.o⟩
theorem mq (l:List (ByteArray×ByteArray))(name:ByteArray)(ao:Option Addr)(cap n:Nat)(w:World)(hl:cu w ao cap n (aB l))(hn:l.length=n)(hN:n<=1000000)(hs:∀p∈l,p.1.size<=2000∧p.2.size<=2000)(hnm:name.size<=2000):
 Calls prog 117 #[.slice ao n cap,.string name] w fun e w'=>e=.returned (nL (Fd.one (Fd.vals name l)))∧Below w.heap.size w w':=by
 have HV:=H9 (mh l name ao cap n w hl hn hN hs hnm);have hvl:=Fd.lF name l;rw[hn] at hvl;generalize Fd.vals name l=vs at HV hvl;clear hl hs;rcases vs with _ | ⟨v,_ | ⟨v2,t⟩⟩
 . go_enter func117,ntmps117;go_wp2_with fail
   refine HV.o.mono ?_;rintro e w1 ⟨JF,sw,rfl,hO,hB⟩;have HO:=H9 hO;have HB:=H9 hB
   clear hO hB HV;go_wp2;go_ret2;exact⟨mX (p:=([],10)) rfl rfl,HB.o⟩
 . go_enter func117,ntmps117;go_wp2_with fail
   refine HV.o.mono ?_;rintro e w1 ⟨JF,sw,rfl,hO,hB⟩;have HO:=H9 hO;have HB:=H9 hB
   clear hO hB HV;obtain⟨bb,oo,rfl,hcs⟩:=HO.o.lQ.lit (by simp[vR]);have hc:=hcs 0 (.string v) rfl;rw[Nat.add_zero] at hc;clear hcs;go_wp2;go_ret2;exact⟨mX (p:=(v.data.toList,0)) rfl rfl,HB.o⟩
 . have t0:(((v::v2::t).length:Int)==0)=false:=by rw[beq_eq_false_iff_ne,List.length_cons,List.length_cons];omega
   have t1:(((v::v2::t).length:Int)==1)=false:=by rw[beq_eq_false_iff_ne,List.length_cons,List.length_cons];omega
   have HR:Hid (Fd.one (v::v2::t)=([],9)):=rfl;generalize v::v2::t=vs at *;generalize vs.length=L at *;go_enter func117,ntmps117;go_wp2_with fail
   refine HV.o.mono ?_;rintro e w1 ⟨JF,sw,rfl,hO,hB⟩;have HO:=H9 hO;have HB:=H9 hB
   clear hO hB HV;go_wp2;go_ret2;exact⟨mX (p:=([],9)) HR.o rfl,HB.o⟩
theorem O3 (n v:ByteArray)(w:World)(hn:n.size<=100000)(hv:v.size<=100000):
 Calls prog 147 #[.agg #[.string n,.string v]] w fun e w'=>e=.returned (nL (Fd.text n.data.toList v.data.toList))∧Below w.heap.size w w':=by
 have HT:=H9 (fun W=>oq n W (by unfold maxLen;omega));have HV:=H9 (fun W=>dW v W (by unfold maxLen;omega));have vT:=H9 (fun W=>l7 v W (by omega));have hln:n.data.toList.length=n.size:=by rw[Array.length_toList];rfl
 have hlv:v.data.toList.length=v.size:=by rw[Array.length_toList];rfl
 have hof:Fd.text n.data.toList v.data.toList=if Ch.isToken n.data.toList=false then ([],6) else if 40<n.size∨200<n.size+2+v.size then ([],4) else if Ch.aP v.data.toList=false∨Lib.trimS v.data.toList Ch.ws≠v.data.toList then ([],3) else (n.data.toList++[58,32]++v.data.toList,0):=by
  unfold Fd.text;rw[hln,hlv]
 clear hln hlv;have HO:=H9 hof;clear hof;have hsz:(n++⟨#[58,32]⟩++v).size=n.size+2+v.size:=by simp[ByteArray.size_append];rfl
 have HE:Hid (n++⟨#[58,32]⟩++v=⟨(n.data.toList++[58,32]++v.data.toList).toArray⟩):=Ch.str_eq (by rw[Ch.data_append,Ch.data_append]);cases ht:Ch.isToken n.data.toList
 . rw[ht] at HT;have HR:Hid (Fd.text n.data.toList v.data.toList=([],6)):=by have:=HO.o;rw[if_pos ht] at this;exact this
   clear HO ht HV vT HE;go_enter func147,ntmps147;go_wp2_with fail
   refine(HT.o _).mono ?_;rintro e w3 ⟨rfl,hw⟩;have hB:=KF ⟨0,hw⟩;clear hw;go_wp2;go_ret2;exact⟨mX HR.o rfl,hB⟩
 . rw[ht] at HT;have h6:=HO.o;rw[if_neg (by rw[ht];simp)] at h6;have D6:=H9 h6;clear HO ht h6;by_cases UJ:40<n.size∨200<n.size+2+v.size
   . have HR:Hid (Fd.text n.data.toList v.data.toList=([],4)):=by have:=D6.o;rw[if_pos UJ] at this;exact this
     clear D6 HV vT HE;by_cases h4:40<n.size
     . have t1:decide ((n.size:Int) > 40)=true:=by rw[decide_eq_true_eq];omega
       go_enter func147,ntmps147;go_wp2_with fail
       refine(HT.o _).mono ?_;rintro e w3 ⟨rfl,hw⟩;have B3:Hid (iF w n v w3):=by rw[hw];exact iF.made w n v _
       clear hw;have c0:=B3.out.c0;go_wp2;go_ret2;exact⟨mX HR.o rfl,B3.out.below⟩
     . have t1:decide ((n.size:Int) > 40)=false:=by rw[decide_eq_false_iff_not];omega
       have t2:decide (((n++⟨#[58,32]⟩++v).size:Int) > 200)=true:=by rw[decide_eq_true_eq,hsz];omega
       clear hsz;go_enter func147,ntmps147;go_wp2_with fail
       refine(HT.o _).mono ?_;rintro e w3 ⟨rfl,hw⟩;have B3:Hid (iF w n v w3):=by rw[hw];exact iF.made w n v _
       clear hw;have c0:=B3.out.c0;generalize n++⟨#[58,32]⟩++v=tx at *;go_wp2;go_ret2;exact⟨mX HR.o rfl,B3.out.below⟩
   . have h4:=D6.o;rw[if_neg UJ] at h4;have zG:=H9 h4;clear D6 h4;have t1:decide ((n.size:Int) > 40)=false:=by rw[decide_eq_false_iff_not];omega
     have t2:decide (((n++⟨#[58,32]⟩++v).size:Int) > 200)=false:=by rw[decide_eq_false_iff_not,hsz];omega
     clear UJ hsz;cases UY:Ch.aP v.data.toList
     . rw[UY] at HV;have HR:Hid (Fd.text n.data.toList v.data.toList=([],3)):=by have:=zG.o;rw[if_pos (Or.inl UY)] at this;exact this
       clear zG UY vT HE;go_enter func147,ntmps147;go_wp2_with fail
       refine(HT.o _).mono ?_;rintro e w3 ⟨rfl,hw⟩;have B3:Hid (iF w n v w3):=by rw[hw];exact iF.made w n v _
       clear hw;have c0:=B3.out.c0;have c1:=B3.out.c1;generalize n++⟨#[58,32]⟩++v=tx at *;go_wp2_with fail
       refine(HV.o _).mono ?_;rintro e w4 ⟨rfl,hw⟩;subst hw;go_wp2;go_ret2;exact⟨mX HR.o rfl,B3.out.below⟩
     . rw[UY] at HV;by_cases htr:Lib.trimS v.data.toList Ch.ws=v.data.toList
       . have HR:Hid (Fd.text n.data.toList v.data.toList=(n.data.toList++[58,32]++v.data.toList,0)):=by have:=zG.o;rw[if_neg (by rw[UY,htr];simp)] at this;exact this
         rw[htr] at vT;have hve:(⟨v.data.toList.toArray⟩:ByteArray)=v:=rfl;rw[hve] at vT;clear zG UY htr hve;go_enter func147,ntmps147;go_wp2_with fail
         refine(HT.o _).mono ?_;rintro e w3 ⟨rfl,hw⟩;have B3:Hid (iF w n v w3):=by rw[hw];exact iF.made w n v _
         clear hw;have c0:=B3.out.c0;have c1:=B3.out.c1;generalize n++⟨#[58,32]⟩++v=tx at *;go_wp2_with fail
         refine(HV.o _).mono ?_;rintro e w4 ⟨rfl,hw⟩;subst hw;go_wp2;go_region_held3 (fun w'=>w'.cell? ⟨w.heap.size,1,none⟩=some (.string v)) (go_keep) (first | (go_at_call 193;refine(vT.o _).mono ?_;rintro e w5 ⟨rfl,hB⟩;have B5:=H9 (B3.out.drew.stay hB);have c1':=B5.out.c1;clear hB))
         all_goals
          go_wp2;go_ret2;exact⟨mX HR.o (by unfold nL;rw[<-HE.o];rfl),B5.out.below⟩
       . have HR:Hid (Fd.text n.data.toList v.data.toList=([],3)):=by have:=zG.o;rw[if_pos (Or.inr htr)] at this;exact this
         have hne:((⟨(Lib.trimS v.data.toList Ch.ws).toArray⟩:ByteArray).toList==v.toList)=false:=by
          rw[Lib.toList_data,Lib.toList_data,beq_eq_false_iff_ne];simpa using htr
         clear zG UY htr HE;generalize (⟨(Lib.trimS v.data.toList Ch.ws).toArray⟩:ByteArray)=tv at vT hne;go_enter func147,ntmps147;go_wp2_with fail
         refine(HT.o _).mono ?_;rintro e w3 ⟨rfl,hw⟩;have B3:Hid (iF w n v w3):=by rw[hw];exact iF.made w n v _
         clear hw;have c0:=B3.out.c0;have c1:=B3.out.c1;generalize n++⟨#[58,32]⟩++v=tx at *;go_wp2_with fail
         refine(HV.o _).mono ?_;rintro e w4 ⟨rfl,hw⟩;subst hw;go_wp2;go_region_held3 (fun w'=>w'.cell? ⟨w.heap.size,1,none⟩=some (.string v)) (go_keep) (first | (go_at_call 193;refine(vT.o _).mono ?_;rintro e w5 ⟨rfl,hB⟩;have B5:=H9 (B3.out.drew.stay hB);have c1':=B5.out.c1;clear hB))
         all_goals
          go_wp2;go_ret2;exact⟨mX HR.o rfl,B5.out.below⟩
def Qv:ByteArray:=⟨#[72,111,115,116]⟩
def Qw:ByteArray:=⟨#[67,111,110,116,101,110,116,45,76,101,110,103,116,104]⟩
def Qx:ByteArray:=⟨#[84,114,97,110,115,102,101,114,45,69,110,99,111,100,105,110,103]⟩
theorem MJ (l:List (ByteArray×ByteArray)):Fd.vals Qv l=Fd.vals uZ l:=Fd.eu _ _ l (by decide)
theorem MK (l:List (ByteArray×ByteArray)):Fd.vals Qw l=Fd.vals qo l:=Fd.eu _ _ l (by decide)
theorem ML (l:List (ByteArray×ByteArray)):Fd.vals Qx l=Fd.vals qp l:=Fd.eu _ _ l (by decide)
theorem MN (l:List (ByteArray×ByteArray))(name:ByteArray)(ao:Option Addr)(cap n:Nat)(w:World)(hl:cu w ao cap n (aB l))(hn:l.length=n)(hN:n<=1000000)(hs:∀p∈l,p.1.size<=2000∧p.2.size<=2000)(hnm:name.size<=2000):
 Calls prog 189 #[.slice ao n cap,.string name] w fun e w'=>e=.returned (.int .i64 ((Fd.vals name l).length:Int))∧Below w.heap.size w w':=by
 have HV:=H9 (mh l name ao cap n w hl hn hN hs hnm);generalize (Fd.vals name l)=vs at HV ⊢;go_enter func189,ntmps189;go_wp2_with (go_at_call 157;refine HV.o.mono ?_;rintro e w1 ⟨JF,sw,rfl,hO,hB⟩;have HB:=H9 hB;clear hO hB)
 go_ret;exact⟨rfl,HB.o⟩
theorem IU (gh mi:Nat)(l:List (ByteArray×ByteArray))(fo:Option Addr)(ak n:Nat)(w:World)(c2:w.cell? ⟨gh,2,none⟩=some (.int .i64 (mi:Int)))(c3:w.cell? ⟨gh,3,none⟩=some (.slice fo n ak))(hl:cu w fo ak n (aB l))(hn:l.length=n)(hN:n<=16)(hs:∀p∈l,p.1.size<=2000∧p.2.size<=2000):
 Calls prog 190 #[.pointer (some ⟨gh,0,none⟩)] w fun e w'=>e=.returned (Rq.lenVal (Rq.rR mi (Rq.lists (Fd.vals qo l)) (Rq.lists (Fd.vals qp l))))∧Below w.heap.size w w':=by
 have H1:=H9 (mh l Qx fo ak n w hl hn (by omega) hs (by decide));have H2:=H9 (fun W (hW:Below w.heap.size w W)=>mh l Qw fo ak n W (hl.stay hW) hn (by omega) hs (by decide));rw[ML] at H1;simp only[MK] at H2;have HC:=H9 (fun W (hW:Below w.heap.size w W)=>And.intro ((hW.cell (World.block_lt_of_cell? w _ c2)).trans c2) ((hW.cell (World.block_lt_of_cell? w _ c3)).trans c3));have hm1:∀v∈Fd.vals qp l,v.size<=2000:=fun v hv=>by
  obtain⟨p,hp,rfl⟩:=Fd.rQ hv;exact(hs p hp).2
 have hm2:∀v∈Fd.vals qo l,v.size<=2000:=fun v hv=>by
  obtain⟨p,hp,rfl⟩:=Fd.rQ hv;exact(hs p hp).2
 have hv1:=Fd.lF qp l;have hv2:=Fd.lF qo l;generalize Fd.vals qp l=cs at H1 hm1 hv1 ⊢;generalize Fd.vals qo l=vs at H2 hm2 hv2 ⊢;have PU:=H9 hm1;have Mc:=H9 hm2
 have hcl:cs.length<=16:=by omega
 have hvl:vs.length<=16:=by omega
 clear hm1 hm2 hl hs hv1 hv2 c2 hn hN;unfold Qx at H1;simp only[Qw] at H2;have SI:Hid (Rq.rR mi (Rq.lists vs) (Rq.lists cs)=if Rq.lists cs≠[] then (if Rq.lists vs≠[]∨mi=0 then .inl 12 else if (Rq.lists cs).length≠1∨Ch.lower ((Rq.lists cs).headD [])≠Rq.nY then .inl 11 else .inr (-1)) else Rq.lG (Rq.lists vs)):=rfl;generalize Rq.rR mi (Rq.lists vs) (Rq.lists cs)=R at SI ⊢;have hlc:∀l:List ByteArray,(Rq.lists l).length=l.length:=fun l=>by simp[Rq.lists]
 have hln:∀l:List ByteArray,Rq.lists l≠[]<->0<l.length:=fun l=>by rw[<-hlc l];exact List.length_pos_iff.symm
 by_cases hc0:cs.length=0
 . have t0:((cs.length:Int)==0)=true:=beq_iff_eq.2 (by omega);have HS:=H9 (fun ao cap W h=>zq vs ao cap W h (by omega) Mc.o);have hR:R=Rq.lG (Rq.lists vs):=by rw[SI.o,if_neg (by rw[hln];omega)]
   subst hR;generalize Rq.lG (Rq.lists vs)=R at HS ⊢;generalize cs.length=nc at *;clear hc0 SI hlc hln;go_enter func190,ntmps190;go_wp2_with fail
   refine H1.o.mono ?_;rintro e w1 ⟨JF,sw,rfl,jP,hB1⟩;have vZ:=H9 jP;have HB1:=H9 hB1
   have c3':=(HC.o w1 hB1).2;clear jP hB1;go_wp2_with fail
   refine(H2.o w1 HB1.o).mono ?_;rintro e w2 ⟨dN,cap2,rfl,hO2,hB2⟩;have M8:=H9 hO2.lQ;have SK:=H9 (vZ.o.lQ.stay hB2);have HB2:=H9 (then_ HB1.o hB2)
   have c2':=(HC.o w2 HB2.o).1;clear hO2 hB2 c3' c3 H1 H2;cases R with
   | inl c =>
     unfold Rq.lenVal at HS;go_wp2_with fail
     refine(HS.o _ _ _ M8.o).mono ?_;rintro e w3 ⟨rfl,hw⟩;subst hw;go_wp2;go_ret2;exact⟨rfl,HB2.o⟩
   | inr k =>
     unfold Rq.lenVal at HS;go_wp2_with fail
     refine(HS.o _ _ _ M8.o).mono ?_;rintro e w3 ⟨rfl,hw⟩;subst hw;go_wp2;go_ret2;exact⟨rfl,HB2.o⟩
 . have t0:((cs.length:Int)==0)=false:=beq_eq_false_iff_ne.2 (by omega);have hR:=SI.o;rw[if_pos ((hln cs).2 (by omega))] at hR;by_cases hv0:0<vs.length
   . have tv:decide ((vs.length:Int) > 0)=true:=decide_eq_true (by omega);rw[if_pos (Or.inl ((hln vs).2 hv0))] at hR;subst hR;clear hc0 SI hlc hln;go_enter func190,ntmps190;go_wp2_with fail
     refine H1.o.mono ?_;rintro e w1 ⟨JF,sw,rfl,jP,hB1⟩;have vZ:=H9 jP;have HB1:=H9 hB1
     have c3':=(HC.o w1 hB1).2;clear jP hB1;go_wp2_with fail
     refine(H2.o w1 HB1.o).mono ?_;rintro e w2 ⟨dN,cap2,rfl,hO2,hB2⟩;have M8:=H9 hO2.lQ;have SK:=H9 (vZ.o.lQ.stay hB2);have HB2:=H9 (then_ HB1.o hB2)
     have c2':=(HC.o w2 HB2.o).1;clear hO2 hB2 c3' c3 H1 H2;go_wp2;go_ret2;exact⟨rfl,HB2.o⟩
   . have tv:decide ((vs.length:Int) > 0)=false:=decide_eq_false (by omega);by_cases hm0:mi=0
     . have tm:((mi:Int)==0)=true:=beq_iff_eq.2 (by omega);rw[if_pos (Or.inr hm0)] at hR;subst hR;generalize vs.length=nv at *;clear hc0 SI hlc hln hm0;go_enter func190,ntmps190;go_wp2_with fail
       refine H1.o.mono ?_;rintro e w1 ⟨JF,sw,rfl,jP,hB1⟩;have vZ:=H9 jP;have HB1:=H9 hB1
       have c3':=(HC.o w1 hB1).2;clear jP hB1;go_wp2_with fail
       refine(H2.o w1 HB1.o).mono ?_;rintro e w2 ⟨dN,cap2,rfl,hO2,hB2⟩;have M8:=H9 hO2.lQ;have SK:=H9 (vZ.o.lQ.stay hB2);have HB2:=H9 (then_ HB1.o hB2)
       have c2':=(HC.o w2 HB2.o).1;clear hO2 hB2 c3' c3 H1 H2;go_wp2;go_ret2;exact⟨rfl,HB2.o⟩
     . have tm:((mi:Int)==0)=false:=beq_eq_false_iff_ne.2 (by omega);rw[if_neg (fun e=>by rcases e with e | e;exact hv0 ((hln vs).1 e);exact hm0 e)] at hR;by_cases hc1:1<cs.length
       . have t1:decide ((cs.length:Int) > 1)=true:=decide_eq_true (by omega);rw[if_pos (Or.inl (by rw[hlc];omega))] at hR;subst hR;generalize vs.length=nv at *;clear hc0 SI hlc hln hm0;go_enter func190,ntmps190;go_wp2_with fail
         refine H1.o.mono ?_;rintro e w1 ⟨JF,sw,rfl,jP,hB1⟩;have vZ:=H9 jP;have HB1:=H9 hB1
         have c3':=(HC.o w1 hB1).2;clear jP hB1;go_wp2_with fail
         refine(H2.o w1 HB1.o).mono ?_;rintro e w2 ⟨dN,cap2,rfl,hO2,hB2⟩;have M8:=H9 hO2.lQ;have SK:=H9 (vZ.o.lQ.stay hB2);have HB2:=H9 (then_ HB1.o hB2)
         have c2':=(HC.o w2 HB2.o).1;clear hO2 hB2 c3' c3 H1 H2;go_wp2;go_ret2;exact⟨rfl,HB2.o⟩
       . have t1:decide ((cs.length:Int) > 1)=false:=decide_eq_false (by omega);have VX:0<cs.length:=by omega
         have hhd:(Rq.lists cs).headD []=cs[0].data.toList:=by
          cases cs with
          | nil=>simp at VX
          | cons v r=>rfl
         have Sb:=H9 (Bw cs 0 VX);have hsz:=PU.o cs[0] (List.getElem_mem VX);rw[hhd,hlc] at hR;generalize cs[0]=x at *;have sW:=H9 (fun W=>jf x W (by unfold maxLen;omega));have hcp:(Rq.lists cs).length=1:=by rw[hlc];omega
         by_cases hch:Ch.lower x.data.toList=Rq.nY
         . rw[if_neg (fun e=>by rcases e with e | e;exact e (by omega);exact e hch)] at hR;subst hR;rw[hch] at sW;generalize vs.length=nv at *;clear hc0 SI hlc hln hm0 hhd hcp hch;go_enter func190,ntmps190;go_wp2_with fail
           refine H1.o.mono ?_;rintro e w1 ⟨JF,sw,rfl,jP,hB1⟩;have vZ:=H9 jP;have HB1:=H9 hB1
           have c3':=(HC.o w1 hB1).2;clear jP hB1;go_wp2_with fail
           refine(H2.o w1 HB1.o).mono ?_;rintro e w2 ⟨dN,cap2,rfl,hO2,hB2⟩;have M8:=H9 hO2.lQ;have SK:=H9 (vZ.o.lQ.stay hB2);have HB2:=H9 (then_ HB1.o hB2)
           have c2':=(HC.o w2 HB2.o).1;clear hO2 hB2 c3' c3 H1 H2;obtain⟨bb,oo,rfl,hcc⟩:=SK.o.lit (by rw[nT];omega);have x0:w2.cell? ⟨bb,oo,none⟩=some (.string x):=by have:=hcc 0 _ Sb.o;simpa using this
           have hcap:=SK.o.1;clear hcc;go_wp2_with fail
           refine(sW.o _).mono ?_;rintro e w3 ⟨rfl,hb3⟩;have HB3:=H9 (then_ HB2.o hb3);clear hb3;go_wp2;go_ret2;exact⟨rfl,HB3.o⟩
         . rw[if_pos (Or.inr hch)] at hR;subst hR;have hne:((⟨(Ch.lower x.data.toList).toArray⟩:ByteArray).toList==[99,104,117,110,107,101,100])=false:=by
            rw[Lib.toList_data,beq_eq_false_iff_ne];exact hch
           generalize (⟨(Ch.lower x.data.toList).toArray⟩:ByteArray)=lx at sW hne;generalize vs.length=nv at *;clear hc0 SI hlc hln hm0 hhd hcp hch;go_enter func190,ntmps190;go_wp2_with fail
           refine H1.o.mono ?_;rintro e w1 ⟨JF,sw,rfl,jP,hB1⟩;have vZ:=H9 jP;have HB1:=H9 hB1
           have c3':=(HC.o w1 hB1).2;clear jP hB1;go_wp2_with fail
           refine(H2.o w1 HB1.o).mono ?_;rintro e w2 ⟨dN,cap2,rfl,hO2,hB2⟩;have M8:=H9 hO2.lQ;have SK:=H9 (vZ.o.lQ.stay hB2);have HB2:=H9 (then_ HB1.o hB2)
           have c2':=(HC.o w2 HB2.o).1;clear hO2 hB2 c3' c3 H1 H2;obtain⟨bb,oo,rfl,hcc⟩:=SK.o.lit (by rw[nT];omega);have x0:w2.cell? ⟨bb,oo,none⟩=some (.string x):=by have:=hcc 0 _ Sb.o;simpa using this
           have hcap:=SK.o.1;clear hcc;go_wp2_with fail
           refine(sW.o _).mono ?_;rintro e w3 ⟨rfl,hb3⟩;have HB3:=H9 (then_ HB2.o hb3);clear hb3;go_wp2;go_ret2;exact⟨rfl,HB3.o⟩
end Go.Proofs.YtjmndjmhjleabaaGreatDoor