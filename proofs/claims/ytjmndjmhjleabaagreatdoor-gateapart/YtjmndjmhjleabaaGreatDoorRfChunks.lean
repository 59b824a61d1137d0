/- The document's own answer, walked: ChunksOf. -/
import Derived.Test.YtjmndjmhjleabaaGreatDoorPk18
import Derived.Deep.DeepCutAuto
open Go.Value renaming string->V
open Option renaming none->U,some->M
open Bool renaming false->F
set_option maxHeartbeats 4000000
set_option maxRecDepth 100000
open Go.Proofs.Tryz
namespace Go.Proofs.YtjmndjmhjleabaaGreatDoor
open Go.RowKit
theorem Gl (b:au)(bb oo cap:Nat)(w:World)(hb:iG w (M ⟨bb,oo,U⟩) cap b)(h9:b.length<=20000):
 Calls prog 46 #[.slice (M ⟨bb,oo,U⟩) b.length cap] w fun e w'=>lu w b e w':=by
 have HB:=H9 hb;have Fv:=H9 (fun k n c ao hk hn hc ha W hW=>MN hb h9 k n c ao hk hn hc ha W hW);have hcap:=hb.1;clear hb;obtain⟨i0,hi0,hz0,hz1,hz2⟩:=info_parts jN;have Hi:=H9 hi0;have kJ:=H9 hz0;have kG:=H9 hz1;have kK:=H9 hz2
 clear hi0 hz0 hz1 hz2;go_enter func46,ntmps46;go_wp2;go_loopw [6,7] (fun vb va wr=>∃(p n:Nat) (ao:aj) (ca:Nat) (body:au) (f:Nat),p<=b.length∧vb=.slice ao n ca∧va=.int .i64 p∧aft w b p ao ca n body f wr) (fun _ va _=>b.length+1-(intOf va).toNat)
 case atStart=>exact⟨0,0,U,0,[],b.length,ay _,rfl,rfl,⟨iD.nil _ _ _,rfl,by omega,by simp,by simp[Ck.shift,Ck.of],fI _ _⟩⟩
 case round =>
  obtain⟨p,n,ao,ca,body,f,hp,rfl,rfl,hR⟩:=hrel;have i:=H9 hR;have J9:=hR.n_;clear hR;have hle:=Ln.of_le (b.drop p);have htl:=Ln.uO (b.drop p);rw[bU] at hle htl;have hkind:=Ln.CS (b.drop p);by_cases u:(Ln.of (b.drop p)).code≠0∨(Ln.of (b.drop p)).ended=F
  . have d:=i.o.PV;rw[Ck.NH u] at d;have C:=H9 d;clear d hkind;by_cases hac:cap=p
    . have vK:=H9 (fun W hW=>Fv.o p 0 0 (M ⟨bb,oo,U⟩) hp (by omega) (by omega) (fun e=>absurd hac e) W hW);have hnil:b.drop p=[]:=aJ (by omega);rw[hnil] at vK C;have e0:Ln.of []=Ln.open_:=rfl;rw[e0] at vK C;unfold Ln.open_ at vK C;simp only at vK C;have e1:b.length-p=0:=by omega
      have e2:cap-p=0:=by omega
      clear u hle htl hnil e0;subst hac;go_wp2_with fail
      refine(vK.o _ i.o.below).mono ?_;rintro e w1 ⟨rfl,B⟩;subst B;go_wp2;(try simp only[Exit.inBlock,Exit.then]);refine gq (gX rfl _ _ _) rfl ?_;exact lu.of body (cap+0) F 0 ao ca n _ (by rw[C.o];simp[Ck.shift]) i.o.len (by omega) rfl i.o.own i.o.below
    . have vK:=H9 (fun W hW=>Fv.o p (b.length-p) (cap-p) (M ⟨bb,oo+p,U⟩) hp rfl rfl (fun _=>rfl) W hW);generalize Ln.of (b.drop p)=L at *;obtain⟨t,a,en,lc⟩:=L;simp only at *;generalize (⟨t.toArray⟩:av)=tb at *;by_cases S:lc=0
      . subst S;have O:en=F:=by
         rcases u with h | h
         . exact absurd rfl h
         . exact h
        subst O;clear u;go_wp2_with fail
        refine(vK.o _ i.o.below).mono ?_;rintro e w1 ⟨rfl,B⟩;subst B;go_wp2;(try simp only[Exit.inBlock,Exit.then]);refine gq (gX rfl _ _ _) rfl ?_;exact lu.of body (p+a) F 0 ao ca n _ (by rw[C.o];simp[Ck.shift]) i.o.len (by omega) rfl i.o.own i.o.below
      . have tlc:((lc:Int) != 0)=true:=by rw[cO];omega
        clear u;go_wp2_with fail
        refine(vK.o _ i.o.below).mono ?_;rintro e w1 ⟨rfl,B⟩;subst B;go_wp2;(try simp only[Exit.inBlock,Exit.then]);refine gq (gX rfl _ _ _) rfl ?_;exact lu.of body (p+a) F lc ao ca n _ (by rw[C.o];simp[Ck.shift]) i.o.len (by omega) rfl i.o.own i.o.below
  . have S:(Ln.of (b.drop p)).code=0:=by
     rcases fE (Ln.of (b.drop p)).code with h | h
     . exact h
     . exact absurd (Or.inl (by omega)) u
    have O:(Ln.of (b.drop p)).ended=true:=by
     cases h:(Ln.of (b.drop p)).ended
     . exact absurd (Or.inr h) u
     . rfl
    have hsz:0<(Ln.of (b.drop p)).size:=by
     rcases fE (Ln.of (b.drop p)).size with h | h
     . have:=Ck.oW h;rw[O] at this;cases this.2
     . exact h
    clear hkind;have hac:¬cap=p:=by omega
    have vK:=H9 (fun W hW=>Fv.o p (b.length-p) (cap-p) (M ⟨bb,oo+p,U⟩) hp rfl rfl (fun _=>rfl) W hW);rw[S,O] at vK;have uU:=H9 u;clear u S O;have T:∀k,(b.drop p).drop k=b.drop (p+k):=fun k=>eX;have Uz:=H9 T;clear T;generalize hT:(Ln.of (b.drop p)).text=t at *;generalize hS:(Ln.of (b.drop p)).size=a at *;have HT:=H9 hT;have HS:=H9 hS
    clear hT hS;have htz:(⟨t.toArray⟩:av).size=t.length:=by show t.toArray.size=_;simp
    have htd:(⟨t.toArray⟩:av).data.toList=t:=rfl;obtain⟨ac6,wq,hq,Yu,hzq,hIq⟩:=zk (P:=prog) wr ⟨t.toArray⟩ 9 31 5 underlying9 underlying31 underlying5;have FR:=H9 (FI wq _ ac6 (⟨t.toArray⟩:av).size _ ⟨#[59]⟩ hIq (by rw[htd,htz]) (by decide) (by omega));rw[htd] at FR;have PW:=H9 (then_ i.o.below Yu);generalize htb:(⟨t.toArray⟩:av)=tb at *;have HRq:Hid (iD wq w.heap.size 5 ao ca body):=i.o.own.stay Yu;generalize wr.heap.size=qb at hq FR;have HTz:=H9 htz;have HTd:=H9 htd
    clear Yu hzq hIq htb htz htd;go_wp2_with fail
    refine(vK.o _ i.o.below).mono ?_;rintro e w1 ⟨rfl,B⟩;subst B;clear vK;go_wp2_with fail
    refine FR.o.mono ?_;rintro e w2 ⟨r,rfl,hfi,B⟩;subst B;clear FR hq;have hfo:=FJ hfi;clear hfi;go_upto_if 49 with fail
    go_cut [8] from 22 to 122 (fun v wd=>∃s:av,v=V s∧s.data.toList=t.take (Fd.at_ 59 t)∧s.size<=20000∧wd=w2)
    case first =>
     rcases hfo with ⟨rfl,hk⟩ | ⟨hr,hk⟩
     . have HK:=H9 hk;clear hk;go_wp2;go_meet;exact⟨tb,rfl,by rw[HK.o,bO,HTd.o],by rw[HTz.o];omega,rfl⟩
     . have e1:(0:Int)<=r:=by omega
       obtain⟨k,rfl⟩:∃k:Nat,r=k:=⟨Fd.at_ 59 t,hr⟩;have hk':Fd.at_ 59 t=k:=by omega
       have e2:(k:Int)<=tb.size:=by rw[HTz.o];omega
       have HK:=H9 hk';clear hk hr hk';go_wp2;go_meet;exact⟨tb.extract 0 k,rfl,by rw[HK.o,Lib.extract_data,HTd.o];simp,by have:=HTz.o;simp;omega,rfl⟩
    case rest =>
     obtain⟨s,rfl,hs,hsl,B⟩:=hcut;subst B;clear hfo HTz HTd;have tq:=H9 (BU s wc (by unfold maxLen;omega));have hso:=aap t s hs;have PX:=vW s.data.toList;rw[Ch.iC] at PX;have HN:=H9 (fun W=>CR ⟨(Lib.trimS s.data.toList Ch.ws).toArray⟩ W (by show(Lib.trimS _ _).toArray.size<=maxLen;rw[bL];unfold maxLen;omega));have hdat:(⟨(Lib.trimS s.data.toList Ch.ws).toArray⟩:av).data.toList=Lib.trimS s.data.toList Ch.ws:=rfl;rw[hdat,<-hso] at HN;have ac7:=D6 t;clear hso hdat hs PX hsl;generalize (⟨(Lib.trimS s.data.toList Ch.ws).toArray⟩:av)=tv at *;generalize hz:(Ck.size t).1=z at *;generalize hok:(Ck.size t).2=ok at *;have HZ:=H9 hz;have qx:=H9 hok
     clear hz hok;have hz0:=ac7.1;have hz1:=ac7.2;clear ac7;cases ok
     . go_wp2_with fail
       refine tq.o.mono ?_;rintro e w3 ⟨rfl,B⟩;subst B;go_wp2_with fail
       refine(HN.o _).mono ?_;rintro e w4 ⟨rfl,g⟩;have D:=H9 g;clear g;go_wp2;(try simp only[Exit.inBlock,Exit.then]);refine gq (gX rfl _ _ _) rfl ?_;have h:=i.o.PV;rw[Ck.Y5 uU.o (by rw[HT.o];exact qx.o),HS.o] at h;exact lu.of body (p+a) F 7 ao ca n _ (by rw[h];simp[Ck.shift]) i.o.len (by omega) rfl (HRq.o.stay D.o) (then_ PW.o D.o)
     . obtain⟨k,rfl⟩:∃k:Nat,z=k:=⟨z.toNat,by omega⟩;have Q9:Hid ((Ck.size (Ln.of (b.drop p)).text).1.toNat=k):=by unfold Hid;rw[HT.o,HZ.o];simp
       have JY:Hid ((Ck.size (Ln.of (b.drop p)).text).2=true):=by unfold Hid;rw[HT.o];exact qx.o
       clear HZ qx;by_cases h4:4000<n+k
       . have t4:decide ((n:Int)+k > 4000)=true:=aH (by omega);go_wp2_with fail
         refine tq.o.mono ?_;rintro e w3 ⟨rfl,B⟩;subst B;go_wp2_with fail
         refine(HN.o _).mono ?_;rintro e w4 ⟨rfl,g⟩;have D:=H9 g;clear g;go_wp2;(try simp only[Exit.inBlock,Exit.then]);refine gq (gX rfl _ _ _) rfl ?_;have h:=i.o.PV;rw[Ck.Y6 uU.o JY.o (by rw[Q9.o];exact h4),HS.o] at h;exact lu.of body (p+a) F 4 ao ca n _ (by rw[h];simp[Ck.shift]) i.o.len (by omega) rfl (HRq.o.stay D.o) (then_ PW.o D.o)
       . have t4:decide ((n:Int)+k > 4000)=F:=aI (by omega);by_cases hk0:k=0
         . subst hk0;have d:=i.o.PV;rw[Ck.Y7 uU.o JY.o (by rw[Q9.o];exact h4) Q9.o,HS.o,Ck.nR,bV,eX] at d;have C:=H9 d;have y:=H9 i.o.len;have QZ:=H9 i.o.f_
           clear d i;go_wp2_with fail
           refine tq.o.mono ?_;rintro e w3 ⟨rfl,B⟩;subst B;go_wp2_with fail
           refine(HN.o _).mono ?_;rintro e w4 ⟨rfl,g⟩;have D:=H9 g;have HC2:Hid (abn w b (p+a) 0 ao ca n body f w4):=⟨HRq.o.stay g,y.o,by omega,by have:=QZ.o;rw[bU] at this ⊢;omega,C.o,then_ PW.o g⟩;clear g HN tq C y QZ HRq PW HT HS Q9 JY uU t4 h4;have hq0:p+a<=b.length:=by omega
           go_wp2;go_loopw [7,15] (fun va vk wr2=>∃(q m f2:Nat),q<=b.length∧va=.int .i64 q∧vk=.int .i64 m∧abn w b q m ao ca n body f2 wr2) (fun va _ _=>b.length+1-(intOf va).toNat)
           case atStart=>exact⟨p+a,0,f,hq0,by go_num,rfl,HC2.o⟩
           case round =>
            clear HC2 D hq0 hle hsz hac htl hp J9;obtain⟨q,m,f2,hq,rfl,rfl,hR⟩:=hrel;have i:=H9 hR;have an6:=hR.k_;clear hR;have hle:=Ln.of_le (b.drop q);have htl:=Ln.uO (b.drop q);rw[bU] at hle htl;by_cases u:(Ln.of (b.drop q)).code≠0∨(Ln.of (b.drop q)).ended=F
            . have d:=i.o.PV;rw[Ck.RP u] at d;have C:=H9 d;clear d;by_cases hac:cap=q
              . have vK:=H9 (fun W hW=>Fv.o q 0 0 (M ⟨bb,oo,U⟩) hq (by omega) (by omega) (fun e=>absurd hac e) W hW);have hnil:b.drop q=[]:=aJ (by omega);rw[hnil] at vK C;have e0:Ln.of []=Ln.open_:=rfl;rw[e0] at vK C;unfold Ln.open_ at vK C;simp only at vK C;have e1:b.length-q=0:=by omega
                clear u hle htl hnil e0;subst hac;go_wp2_with fail
                refine(vK.o _ i.o.below).mono ?_;rintro e w1 ⟨rfl,B⟩;subst B;go_wp2;(try simp only[Exit.inBlock,Exit.then]);refine gq (gX rfl _ _ _) rfl ?_;exact lu.of body (cap+0) F 0 ao ca n _ (by rw[C.o];simp[Ck.shift]) i.o.len (by omega) rfl i.o.own i.o.below
              . have vK:=H9 (fun W hW=>Fv.o q (b.length-q) (cap-q) (M ⟨bb,oo+q,U⟩) hq rfl rfl (fun _=>rfl) W hW);generalize Ln.of (b.drop q)=L at *;obtain⟨t,a,en,lc⟩:=L;simp only at *;generalize (⟨t.toArray⟩:av)=tb at *;by_cases S:lc=0
                . subst S;have O:en=F:=by
                   rcases u with h | h
                   . exact absurd rfl h
                   . exact h
                  subst O;clear u;go_wp2_with fail
                  refine(vK.o _ i.o.below).mono ?_;rintro e w1 ⟨rfl,B⟩;subst B;go_wp2;(try simp only[Exit.inBlock,Exit.then]);refine gq (gX rfl _ _ _) rfl ?_;exact lu.of body (q+a) F 0 ao ca n _ (by rw[C.o];simp[Ck.shift]) i.o.len (by omega) rfl i.o.own i.o.below
                . have tlc:((lc:Int) != 0)=true:=by rw[cO];omega
                  clear u;go_wp2_with fail
                  refine(vK.o _ i.o.below).mono ?_;rintro e w1 ⟨rfl,B⟩;subst B;go_wp2;(try simp only[Exit.inBlock,Exit.then]);refine gq (gX rfl _ _ _) rfl ?_;exact lu.of body (q+a) F lc ao ca n _ (by rw[C.o];simp[Ck.shift]) i.o.len (by omega) rfl i.o.own i.o.below
            . obtain⟨S,O,hsz⟩:=IW u;have hac:¬cap=q:=by omega
              have vK:=H9 (fun W hW=>Fv.o q (b.length-q) (cap-q) (M ⟨bb,oo+q,U⟩) hq rfl rfl (fun _=>rfl) W hW);rw[S,O] at vK;have uU:=H9 u;have oV:=H9 (fun W=>Cv ⟨(Ln.of (b.drop q)).text.toArray⟩ W (by show(Ln.of (b.drop q)).text.toArray.size<=_;rw[bL];omega));have hdat:(⟨(Ln.of (b.drop q)).text.toArray⟩:av).data.toList=(Ln.of (b.drop q)).text:=rfl;rw[hdat] at oV;unfold Fd.val at oV;have d:=i.o.PV;clear u S O hdat;by_cases N:(Ln.of (b.drop q)).text=[]
              . rw[Ck.RQ uU.o N] at d;rw[N] at vK;have C:=H9 d;clear d oV uU;generalize (Ln.of (b.drop q)).size=a at *;go_wp2_with fail
                refine(vK.o _ i.o.below).mono ?_;rintro e w1 ⟨rfl,B⟩;subst B;go_wp2;(try simp only[Exit.inBlock,Exit.then]);refine gq (gX rfl _ _ _) rfl ?_;exact lu.of body (q+a) true 0 ao ca n _ (by rw[C.o];simp[Ck.shift]) i.o.len (by omega) rfl i.o.own i.o.below
              . have ttx:((⟨(Ln.of (b.drop q)).text.toArray⟩:av).toList==[])=F:=by rw[aR,Lib.toList_data];exact N
                by_cases h16:m=16
                . rw[Ck.NI uU.o N h16] at d;have C:=H9 d;clear d oV uU N;subst h16;generalize (Ln.of (b.drop q)).size=a at *;generalize (⟨(Ln.of (b.drop q)).text.toArray⟩:av)=tb at *;go_wp2_with fail
                  refine(vK.o _ i.o.below).mono ?_;rintro e w1 ⟨rfl,B⟩;subst B;go_wp2;(try simp only[Exit.inBlock,Exit.then]);refine gq (gX rfl _ _ _) rfl ?_;exact lu.of body (q+a) F 8 ao ca n _ (by rw[C.o];simp[Ck.shift]) i.o.len (by omega) rfl i.o.own i.o.below
                . have t16:((m:Int)==16)=F:=by rw[aR];omega
                  by_cases hfc:(Fd.of (Ln.of (b.drop q)).text).code=0
                  . have hfq:=i.o.f_;rw[bU] at hfq;obtain⟨f3,rfl⟩:∃f3,f2=f3+1:=⟨f2-1,by omega⟩;rw[Ck.NK uU.o N h16 hfc,Ck.nR,bV,eX] at d;rw[hfc] at oV;have C:=H9 d;have HF3:Hid ((b.drop (q+(Ln.of (b.drop q)).size)).length<f3+1):=by unfold Hid;rw[bU];omega
                    clear d uU N hfc;generalize (⟨(Fd.of (Ln.of (b.drop q)).text).name.toArray⟩:av)=nm at oV;generalize (⟨(Fd.of (Ln.of (b.drop q)).text).value.toArray⟩:av)=vl at oV;generalize (Ln.of (b.drop q)).size=a at *;generalize (⟨(Ln.of (b.drop q)).text.toArray⟩:av)=tb at *;go_wp2_with fail
                    refine(vK.o _ i.o.below).mono ?_;rintro e w1 ⟨rfl,B⟩;subst B;go_wp2_with fail
                    refine(oV.o _).mono ?_;rintro e w2 ⟨rfl,hb2⟩;have HB2:=H9 hb2;clear hb2;go_wp2;go_roundw
                    case rel =>
                     have hb3:=HB2.o.alloc HB2.o.size (.cells #[V nm,V vl] 111);exact⟨q+a,m+1,f3,by omega,by go_num,by go_num,⟨i.o.own.stay hb3,i.o.len,by omega,HF3.o,C.o,then_ i.o.below hb3⟩⟩
                    case measure=>simp[intOf];omega
                  . have tfc:(((Fd.of (Ln.of (b.drop q)).text).code:Int) != 0)=true:=by rw[cO];omega
                    rw[Ck.NJ uU.o N h16 hfc] at d;have C:=H9 d;clear d uU N hfc;generalize (⟨(Fd.of (Ln.of (b.drop q)).text).name.toArray⟩:av)=nm at oV;generalize (⟨(Fd.of (Ln.of (b.drop q)).text).value.toArray⟩:av)=vl at oV;generalize (Fd.of (Ln.of (b.drop q)).text).code=fc at *;generalize (Ln.of (b.drop q)).size=a at *;generalize (⟨(Ln.of (b.drop q)).text.toArray⟩:av)=tb at *;go_wp2_with fail
                    refine(vK.o _ i.o.below).mono ?_;rintro e w1 ⟨rfl,B⟩;subst B;go_wp2_with fail
                    refine(oV.o _).mono ?_;rintro e w2 ⟨rfl,hb2⟩;have HB2:=H9 hb2;clear hb2;go_wp2;(try simp only[Exit.inBlock,Exit.then]);refine gq (gX rfl _ _ _) rfl ?_;have hb3:=HB2.o.alloc HB2.o.size (.cells #[V nm,V vl] 111);exact lu.of body (q+a) F fc ao ca n _ (by rw[C.o];simp[Ck.shift]) i.o.len (by omega) rfl (i.o.own.stay hb3) (then_ i.o.below hb3)
         . have tk:((k:Int)==0)=F:=by rw[aR];omega
           have wu:=H9 (fun W (hW:Below wc.heap.size wc W)=>HRq.o.stay hW);by_cases hsh:b.length-(p+a)<k
           . have tsh:decide ((b.length:Int)-((p:Int)+a)<k)=true:=aH (by omega);have e1:(p:Int)+a<=b.length:=by omega
             have e2:((p:Int)+a).toNat=p+a:=by omega
             have HD:Hid (b.drop (p+a)=(b.drop p).drop a):=by unfold Hid;rw[eX]
             have hdl:(b.drop (p+a)).length=b.length-(p+a):=bU;have PY:=H9 hdl;clear hdl;have HI4:=H9 (fun W (hW:Below w.heap.size w W) (gV:aj) (ha:cap≠p+a->gV=M ⟨bb,oo+(p+a),U⟩)=>show iG W gV (cap-(p+a)) (b.drop (p+a)) by
              have:=(HB.o.stay hW).cut (gV:=gV) (p+a) b.length (by omega) (aL _) (fun e=>by rw[ha e];simp[Addr.add_lit]);rwa[dN (by rw[bU];omega)] at this)
             have d:=i.o.PV;rw[Ck.VY uU.o JY.o (by rw[Q9.o];omega) (by rw[Q9.o];exact hk0) (by rw[Q9.o,HS.o,bU,bU];omega),HS.o,<-HD.o] at d;have C:=H9 d;have y:=H9 i.o.len;clear d i Fv;by_cases hc2:cap=p+a
             . subst hc2;have e3:b.length-(p+a)=0:=by omega
               have hd0:b.drop (p+a)=[]:=aJ (by omega);rw[hd0] at C;have HI5:=H9 (fun(W:World)=>(show iG W (M ⟨bb,oo,U⟩) 0 [] from⟨aL _,fun _=>rfl,fun j hj=>by cases hj⟩));clear HI4 hd0 HD PY;go_wp2_with fail
               refine tq.o.mono ?_;rintro e w3 ⟨rfl,B⟩;subst B;go_wp2_with fail
               refine(HN.o _).mono ?_;rintro e w4 ⟨rfl,g⟩;have D:=H9 (then_ PW.o g);have tF:=H9 (wu.o _ g)
               clear g;go_wp2_with (at_builtin;refine iI rfl (.tmp 78) (.tmp 81) 31 rfl w.heap.size 5 i0 underlying31 Hi.o kJ.o kG.o kK.o (l:=body) (l2:=[]) rfl y.o tF.o rfl rfl (HI5.o _) (by omega) D.o.size ?_;intro jP gW w5 G H _;have oC:=H9 G;have sF:=H9 (D.o.trans (kD tF.o H D.o.size));clear G H)
               (try simp only[Exit.inBlock,Exit.then]);refine gq (gX rfl _ _ _) rfl ?_;exact lu.of (body++[]) (p+(a+0)) F 0 jP gW (n+0) _ (by rw[C.o];rfl) (by rw[aV,y.o];rfl) (by omega) rfl oC.o sF.o
             . have HI5:=H9 (fun W hW=>HI4.o W hW (M ⟨bb,oo+(p+a),U⟩) (fun _=>rfl));clear HI4;go_wp2_with fail
               refine tq.o.mono ?_;rintro e w3 ⟨rfl,B⟩;subst B;go_wp2_with fail
               refine(HN.o _).mono ?_;rintro e w4 ⟨rfl,g⟩;have D:=H9 (then_ PW.o g);have tF:=H9 (wu.o _ g)
               clear g;go_wp2_with (at_builtin;refine iI rfl (.tmp 78) (.tmp 81) 31 rfl w.heap.size 5 i0 underlying31 Hi.o kJ.o kG.o kK.o (l:=body) (l2:=b.drop (p+a)) rfl y.o tF.o rfl PY.o (HI5.o _ D.o) (by omega) D.o.size ?_;intro jP gW w5 G H _;have oC:=H9 G;have sF:=H9 (D.o.trans (kD tF.o H D.o.size));clear G H)
               (try simp only[Exit.inBlock,Exit.then]);refine gq (gX rfl _ _ _) rfl ?_;exact lu.of (body++b.drop (p+a)) (p+(a+(b.drop (p+a)).length)) F 0 jP gW _ _ (by rw[C.o];rfl) (by rw[aV,y.o,PY.o]) (by rw[PY.o];omega) rfl oC.o sF.o
           . have tsh:decide ((b.length:Int)-((p:Int)+a)<k)=F:=aI (by omega);have e1:(p:Int)+a<=(p:Int)+a+k:=by omega
             have e2:(p:Int)+a+k<=cap:=by omega
             have e3:((p:Int)+a).toNat=p+a:=by omega
             have e4:((p:Int)+a+k).toNat=p+a+k:=by omega
             have e5:p+a+k-(p+a)=k:=by omega
             have e6:¬cap=p+a:=by omega
             have e7:(p:Int)+a+k<=b.length:=by omega
             have hp2:p+a+k<=b.length:=by omega
             have hdl:((b.drop (p+a)).take k).length=k:=by rw[bX,bU];omega
             have HI4:=H9 (fun W (hW:Below w.heap.size w W)=>show iG W (M ⟨bb,oo+(p+a),U⟩) (cap-(p+a)) ((b.drop (p+a)).take k) by
              have:=(HB.o.stay hW).cut (gV:=M ⟨bb,oo+(p+a),U⟩) (p+a) (p+a+k) (by omega) hp2 (fun e=>by simp[Addr.add_lit]);rwa[e5] at this)
             have PY:=H9 hdl;have y:=H9 i.o.len;have h4':¬4000<n+(Ck.size (Ln.of (b.drop p)).text).1.toNat:=by rw[Q9.o];exact h4
             have hk0':¬(Ck.size (Ln.of (b.drop p)).text).1.toNat=0:=by rw[Q9.o];exact hk0
             have hsh':¬((b.drop p).drop (Ln.of (b.drop p)).size).length<(Ck.size (Ln.of (b.drop p)).text).1.toNat:=by rw[Q9.o,HS.o,bU,bU];omega
             have T:((b.drop p).drop (Ln.of (b.drop p)).size).drop (Ck.size (Ln.of (b.drop p)).text).1.toNat=b.drop (p+a+k):=by rw[Q9.o,HS.o,eX,eX,<-bK]
             have hd1:(b.drop p).drop (Ln.of (b.drop p)).size=b.drop (p+a):=by rw[HS.o,eX]
             have d:=i.o.PV;have hle2:=Ln.of_le (b.drop (p+a+k));have PX:=Ln.uO (b.drop (p+a+k));rw[bU] at hle2 PX;have QZ:=H9 i.o.f_;clear hdl i;by_cases yI:(Ln.of (b.drop (p+a+k))).code≠0∨(Ln.of (b.drop (p+a+k))).ended=F
             . rw[Ck.Y8 uU.o JY.o h4' hk0' hsh' (by rw[T];exact yI),T,hd1,Q9.o,HS.o] at d;have C:=H9 d;clear d h4' hk0' hsh' T hd1;generalize (b.drop (p+a)).take k=x at *;by_cases hc2:cap=p+a+k
               . have HL2:=H9 (fun W hW=>Fv.o (p+a+k) 0 0 (M ⟨bb,oo,U⟩) hp2 (by omega) (by omega) (fun e=>absurd hc2 e) W hW);have hnil:b.drop (p+a+k)=[]:=aJ (by omega);rw[hnil] at HL2 C;have e0:Ln.of []=Ln.open_:=rfl;rw[e0] at HL2 C;unfold Ln.open_ at HL2 C;simp only at HL2 C;have e8:b.length-(p+a+k)=0:=by omega
                 clear yI hle2 PX hnil e0 Fv HB;subst hc2;simp only[e5] at HI4;go_wp2_with fail
                 refine tq.o.mono ?_;rintro e w3 ⟨rfl,B⟩;subst B;go_wp2_with fail
                 refine(HN.o _).mono ?_;rintro e w4 ⟨rfl,g⟩;have D:=H9 (then_ PW.o g);have tF:=H9 (wu.o _ g)
                 clear g;go_wp2_with (at_builtin;refine iI rfl (.tmp 85) (.tmp 91) 31 rfl w.heap.size 5 i0 underlying31 Hi.o kJ.o kG.o kK.o (l:=body) (l2:=x) rfl y.o tF.o rfl PY.o (HI4.o _ D.o) (by omega) D.o.size ?_;intro jP gW w5 G H _;have oC:=H9 G;have sF:=H9 (D.o.trans (kD tF.o H D.o.size));clear G H)
                 refine(HL2.o _ sF.o).mono ?_;rintro e w6 ⟨rfl,B⟩;subst B;go_wp2;(try simp only[Exit.inBlock,Exit.then]);refine gq (gX rfl _ _ _) rfl ?_;exact lu.of (body++x) (p+(a+k+0)) F 0 jP gW (n+k) _ (by rw[C.o];simp[Ck.shift]) (by rw[aV,y.o,PY.o]) (by omega) rfl oC.o sF.o
               . have HL2:=H9 (fun W hW=>Fv.o (p+a+k) (b.length-(p+a+k)) (cap-(p+a+k)) (M ⟨bb,oo+(p+a+k),U⟩) hp2 rfl rfl (fun _=>rfl) W hW);clear Fv HB;generalize Ln.of (b.drop (p+a+k))=L at *;obtain⟨t2,kH,en,lc⟩:=L;simp only at *;generalize (⟨t2.toArray⟩:av)=tb2 at *;by_cases S:lc=0
                 . subst S;have O:en=F:=by
                    rcases yI with h | h
                    . exact absurd rfl h
                    . exact h
                   subst O;clear yI;go_wp2_with fail
                   refine tq.o.mono ?_;rintro e w3 ⟨rfl,B⟩;subst B;go_wp2_with fail
                   refine(HN.o _).mono ?_;rintro e w4 ⟨rfl,g⟩;have D:=H9 (then_ PW.o g);have tF:=H9 (wu.o _ g)
                   clear g;go_wp2_with (at_builtin;refine iI rfl (.tmp 85) (.tmp 91) 31 rfl w.heap.size 5 i0 underlying31 Hi.o kJ.o kG.o kK.o (l:=body) (l2:=x) rfl y.o tF.o rfl PY.o (HI4.o _ D.o) (by omega) D.o.size ?_;intro jP gW w5 G H _;have oC:=H9 G;have sF:=H9 (D.o.trans (kD tF.o H D.o.size));clear G H)
                   refine(HL2.o _ sF.o).mono ?_;rintro e w6 ⟨rfl,B⟩;subst B;go_wp2;(try simp only[Exit.inBlock,Exit.then]);refine gq (gX rfl _ _ _) rfl ?_;exact lu.of (body++x) (p+(a+k+kH)) F 0 jP gW (n+k) _ (by rw[C.o];simp[Ck.shift]) (by rw[aV,y.o,PY.o]) (by omega) rfl oC.o sF.o
                 . have tlc:((lc:Int) != 0)=true:=by rw[cO];omega
                   clear yI;go_wp2_with fail
                   refine tq.o.mono ?_;rintro e w3 ⟨rfl,B⟩;subst B;go_wp2_with fail
                   refine(HN.o _).mono ?_;rintro e w4 ⟨rfl,g⟩;have D:=H9 (then_ PW.o g);have tF:=H9 (wu.o _ g)
                   clear g;go_wp2_with (at_builtin;refine iI rfl (.tmp 85) (.tmp 91) 31 rfl w.heap.size 5 i0 underlying31 Hi.o kJ.o kG.o kK.o (l:=body) (l2:=x) rfl y.o tF.o rfl PY.o (HI4.o _ D.o) (by omega) D.o.size ?_;intro jP gW w5 G H _;have oC:=H9 G;have sF:=H9 (D.o.trans (kD tF.o H D.o.size));clear G H)
                   refine(HL2.o _ sF.o).mono ?_;rintro e w6 ⟨rfl,B⟩;subst B;go_wp2;(try simp only[Exit.inBlock,Exit.then]);refine gq (gX rfl _ _ _) rfl ?_;exact lu.of (body++x) (p+(a+k+kH)) F lc jP gW (n+k) _ (by rw[C.o];simp[Ck.shift]) (by rw[aV,y.o,PY.o]) (by omega) rfl oC.o sF.o
             . obtain⟨S,O,hsz2⟩:=IW yI;have hc2:¬cap=p+a+k:=by omega
               have HL2:=H9 (fun W hW=>Fv.o (p+a+k) (b.length-(p+a+k)) (cap-(p+a+k)) (M ⟨bb,oo+(p+a+k),U⟩) hp2 rfl rfl (fun _=>rfl) W hW);rw[S,O] at HL2;clear Fv HB S O;by_cases N:(Ln.of (b.drop (p+a+k))).text=[]
               . have hfq:=QZ.o;rw[bU] at hfq;obtain⟨f3,rfl⟩:∃f3,f=f3+1:=⟨f-1,by omega⟩;rw[Ck.Za uU.o JY.o h4' hk0' hsh' (by rw[T];exact yI) (by rw[T];exact N),T,hd1,Q9.o,HS.o,Ck.nR,eX] at d;rw[N] at HL2;have C:=H9 d;clear d h4' hk0' hsh' T hd1 yI N PX hfq;generalize (Ln.of (b.drop (p+a+k))).size=kH at *;generalize (b.drop (p+a)).take k=x at *;go_wp2_with fail
                 refine tq.o.mono ?_;rintro e w3 ⟨rfl,B⟩;subst B;go_wp2_with fail
                 refine(HN.o _).mono ?_;rintro e w4 ⟨rfl,g⟩;have D:=H9 (then_ PW.o g);have tF:=H9 (wu.o _ g)
                 clear g;go_wp2_with (at_builtin;refine iI rfl (.tmp 85) (.tmp 91) 31 rfl w.heap.size 5 i0 underlying31 Hi.o kJ.o kG.o kK.o (l:=body) (l2:=x) rfl y.o tF.o rfl PY.o (HI4.o _ D.o) (by omega) D.o.size ?_;intro jP gW w5 G H _;have oC:=H9 G;have sF:=H9 (D.o.trans (kD tF.o H D.o.size));clear G H)
                 refine(HL2.o _ sF.o).mono ?_;rintro e w6 ⟨rfl,B⟩;subst B;go_wp2;go_roundw
                 case rel =>
                  have hff:=QZ.o;rw[bU] at hff;refine⟨p+(a+k+kH),n+k,jP,gW,body++x,f3,by omega,by go_num,by go_num,⟨oC.o,by rw[aV,y.o,PY.o],by omega,by rw[bU];omega,?_,sF.o⟩⟩;have h:=C.o;rw[show p+a+k+kH=p+(a+k+kH) by omega] at h;exact h
                 case measure=>simp[intOf];omega
               . have ttx:((⟨(Ln.of (b.drop (p+a+k))).text.toArray⟩:av).toList==[])=F:=by rw[aR,Lib.toList_data];exact N
                 rw[Ck.Y9 uU.o JY.o h4' hk0' hsh' (by rw[T];exact yI) (by rw[T];exact N),T,hd1,Q9.o,HS.o] at d;have C:=H9 d;clear d h4' hk0' hsh' T hd1 yI N PX;generalize (Ln.of (b.drop (p+a+k))).size=kH at *;generalize (⟨(Ln.of (b.drop (p+a+k))).text.toArray⟩:av)=tb2 at *;generalize (b.drop (p+a)).take k=x at *;go_wp2_with fail
                 refine tq.o.mono ?_;rintro e w3 ⟨rfl,B⟩;subst B;go_wp2_with fail
                 refine(HN.o _).mono ?_;rintro e w4 ⟨rfl,g⟩;have D:=H9 (then_ PW.o g);have tF:=H9 (wu.o _ g)
                 clear g;go_wp2_with (at_builtin;refine iI rfl (.tmp 85) (.tmp 91) 31 rfl w.heap.size 5 i0 underlying31 Hi.o kJ.o kG.o kK.o (l:=body) (l2:=x) rfl y.o tF.o rfl PY.o (HI4.o _ D.o) (by omega) D.o.size ?_;intro jP gW w5 G H _;have oC:=H9 G;have sF:=H9 (D.o.trans (kD tF.o H D.o.size));clear G H)
                 refine(HL2.o _ sF.o).mono ?_;rintro e w6 ⟨rfl,B⟩;subst B;go_wp2;(try simp only[Exit.inBlock,Exit.then]);refine gq (gX rfl _ _ _) rfl ?_;exact lu.of (body++x) (p+(a+k+kH)) F 5 jP gW (n+k) _ (by rw[C.o];simp[Ck.shift]) (by rw[aV,y.o,PY.o]) (by omega) rfl oC.o sF.o
end Go.Proofs.YtjmndjmhjleabaaGreatDoor