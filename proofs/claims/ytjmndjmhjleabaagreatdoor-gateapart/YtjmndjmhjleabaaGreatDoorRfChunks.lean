/- The document's own answer, walked: ChunksOf. -/
import Derived.Test.YtjmndjmhjleabaaGreatDoorAl
import Derived.Test.YtjmndjmhjleabaaGreatDoorAm
import Derived.Test.YtjmndjmhjleabaaGreatDoorPk18
import Derived.Deep.DeepCutAuto
set_option maxHeartbeats 4000000
set_option maxRecDepth 100000
open Go.Proofs.Tryz
namespace Go.Proofs.YtjmndjmhjleabaaGreatDoor
open Go.RowKit
theorem Gm (b:av)(bb oo cap:Nat)(w:World)(hb:iH w (some ⟨bb,oo,none⟩) cap b)(h9:b.length<=20000):
 Calls prog 46 #[.slice (some ⟨bb,oo,none⟩) b.length cap] w fun e w'=>lC w b e w':=by
 have HB:=H9 hb;have Fw:=H9 (fun k n c ao hk hn hc ha W hW=>MO hb h9 k n c ao hk hn hc ha W hW);have hcap:=hb.1;clear hb;obtain⟨i0,hi0,hz0,hz1,hz2⟩:=info_parts jO;have Hi:=H9 hi0;have kK:=H9 hz0;have kH:=H9 hz1;have kL:=H9 hz2
 clear hi0 hz0 hz1 hz2;go_enter func46,ntmps46;go_wp2;go_loopw [6,7] (fun vb va wr=>∃(p n:Nat) (ao:ak) (ca:Nat) (body:av) (f:Nat),p<=b.length∧vb=.slice ao n ca∧va=.int .i64 p∧afu w b p ao ca n body f wr) (fun _ va _=>b.length+1-(intOf va).toNat)
 case atStart=>exact⟨0,0,none,0,[],b.length,aA _,rfl,rfl,⟨iF.nil _ _ _,rfl,by omega,by simp,by simp[Ck.shift,Ck.of],fJ _ _⟩⟩
 case round =>
  obtain⟨p,n,ao,ca,body,f,hp,rfl,rfl,hR⟩:=hrel;have HR:=H9 hR;have Ka:=hR.n_;clear hR;have hle:=Ln.of_le (b.drop p);have htl:=Ln.uP (b.drop p);rw[bV] at hle htl;have hkind:=Ln.CU (b.drop p);by_cases hbad:(Ln.of (b.drop p)).code≠0∨(Ln.of (b.drop p)).ended=false
  . have hof:=HR.o.PW;rw[Ck.NI hbad] at hof;have mh:=H9 hof;clear hof hkind;by_cases hac:cap=p
    . have vL:=H9 (fun W hW=>Fw.o p 0 0 (some ⟨bb,oo,none⟩) hp (by omega) (by omega) (fun e=>absurd hac e) W hW);have hnil:b.drop p=[]:=aK (by omega);rw[hnil] at vL mh;have e0:Ln.of []=Ln.open_:=rfl;rw[e0] at vL mh;unfold Ln.open_ at vL mh;simp only at vL mh;have e1:b.length-p=0:=by omega
      have e2:cap-p=0:=by omega
      clear hbad hle htl hnil e0;subst hac;go_wp2_with fail
      refine(vL.o _ HR.o.below).mono ?_;rintro e w1 ⟨rfl,hw⟩;subst hw;go_wp2;(try simp only[Exit.inBlock,Exit.then]);refine gy (gY rfl _ _ _) rfl ?_;exact lC.of body (cap+0) false 0 ao ca n _ (by rw[mh.o];simp[Ck.shift]) HR.o.len (by omega) rfl HR.o.own HR.o.below
    . have vL:=H9 (fun W hW=>Fw.o p (b.length-p) (cap-p) (some ⟨bb,oo+p,none⟩) hp rfl rfl (fun _=>rfl) W hW);generalize Ln.of (b.drop p)=L at *;obtain⟨t,sz,en,lc⟩:=L;simp only at *;generalize (⟨t.toArray⟩:ay)=tb at *;by_cases hlc:lc=0
      . subst hlc;have hen:en=false:=by
         rcases hbad with h | h
         . exact absurd rfl h
         . exact h
        subst hen;clear hbad;go_wp2_with fail
        refine(vL.o _ HR.o.below).mono ?_;rintro e w1 ⟨rfl,hw⟩;subst hw;go_wp2;(try simp only[Exit.inBlock,Exit.then]);refine gy (gY rfl _ _ _) rfl ?_;exact lC.of body (p+sz) false 0 ao ca n _ (by rw[mh.o];simp[Ck.shift]) HR.o.len (by omega) rfl HR.o.own HR.o.below
      . have tlc:((lc:Int) != 0)=true:=by rw[cZ];omega
        clear hbad;go_wp2_with fail
        refine(vL.o _ HR.o.below).mono ?_;rintro e w1 ⟨rfl,hw⟩;subst hw;go_wp2;(try simp only[Exit.inBlock,Exit.then]);refine gy (gY rfl _ _ _) rfl ?_;exact lC.of body (p+sz) false lc ao ca n _ (by rw[mh.o];simp[Ck.shift]) HR.o.len (by omega) rfl HR.o.own HR.o.below
  . have hlc:(Ln.of (b.drop p)).code=0:=by
     rcases fF (Ln.of (b.drop p)).code with h | h
     . exact h
     . exact absurd (Or.inl (by omega)) hbad
    have hen:(Ln.of (b.drop p)).ended=true:=by
     cases h:(Ln.of (b.drop p)).ended
     . exact absurd (Or.inr h) hbad
     . rfl
    have hsz:0<(Ln.of (b.drop p)).size:=by
     rcases fF (Ln.of (b.drop p)).size with h | h
     . have:=Ck.oZ h;rw[hen] at this;cases this.2
     . exact h
    clear hkind;have hac:¬cap=p:=by omega
    have vL:=H9 (fun W hW=>Fw.o p (b.length-p) (cap-p) (some ⟨bb,oo+p,none⟩) hp rfl rfl (fun _=>rfl) W hW);rw[hlc,hen] at vL;have uV:=H9 hbad;clear hbad hlc hen;have hdd:∀k,(b.drop p).drop k=b.drop (p+k):=fun k=>eY;have UA:=H9 hdd;clear hdd;generalize hT:(Ln.of (b.drop p)).text=t at *;generalize hS:(Ln.of (b.drop p)).size=sz at *;have HT:=H9 hT;have HS:=H9 hS
    clear hT hS;have htz:(⟨t.toArray⟩:ay).size=t.length:=by show t.toArray.size=_;simp
    have htd:(⟨t.toArray⟩:ay).data.toList=t:=rfl;obtain⟨ac7,wq,hq,Yv,hzq,hIq⟩:=zm (P:=prog) wr ⟨t.toArray⟩ 9 31 5 underlying9 underlying31 underlying5;have FT:=H9 (FJ wq _ ac7 (⟨t.toArray⟩:ay).size _ ⟨#[59]⟩ hIq (by rw[htd,htz]) (by decide) (by omega));rw[htd] at FT;have PX:=H9 (then_ HR.o.below Yv);generalize htb:(⟨t.toArray⟩:ay)=tb at *;have HRq:Hid (iF wq w.heap.size 5 ao ca body):=HR.o.own.stay Yv;generalize wr.heap.size=qb at hq FT;have HTz:=H9 htz;have HTd:=H9 htd
    clear Yv hzq hIq htb htz htd;go_wp2_with fail
    refine(vL.o _ HR.o.below).mono ?_;rintro e w1 ⟨rfl,hw⟩;subst hw;clear vL;go_wp2_with fail
    refine FT.o.mono ?_;rintro e w2 ⟨r,rfl,hfi,hw⟩;subst hw;clear FT hq;have hfo:=FK hfi;clear hfi;go_upto_if 49 with fail
    go_cut [8] from 22 to 122 (fun v wd=>∃s:ay,v=.string s∧s.data.toList=t.take (Fd.at_ 59 t)∧s.size<=20000∧wd=w2)
    case first =>
     rcases hfo with ⟨rfl,hk⟩ | ⟨hr,hk⟩
     . have HK:=H9 hk;clear hk;go_wp2;go_meet;exact⟨tb,rfl,by rw[HK.o,bP,HTd.o],by rw[HTz.o];omega,rfl⟩
     . have e1:(0:Int)<=r:=by omega
       obtain⟨k,rfl⟩:∃k:Nat,r=k:=⟨Fd.at_ 59 t,hr⟩;have hk':Fd.at_ 59 t=k:=by omega
       have e2:(k:Int)<=tb.size:=by rw[HTz.o];omega
       have HK:=H9 hk';clear hk hr hk';go_wp2;go_meet;exact⟨tb.extract 0 k,rfl,by rw[HK.o,Lib.extract_data,HTd.o];simp,by have:=HTz.o;simp;omega,rfl⟩
    case rest =>
     obtain⟨s,rfl,hs,hsl,hw⟩:=hcut;subst hw;clear hfo HTz HTd;have tC:=H9 (BX s wc (by unfold maxLen;omega));have hso:=aaq t s hs;have PY:=vX s.data.toList;rw[Ch.iD] at PY;have HN:=H9 (fun W=>CS ⟨(Lib.trimS s.data.toList Ch.ws).toArray⟩ W (by show(Lib.trimS _ _).toArray.size<=maxLen;rw[bM];unfold maxLen;omega));have hdat:(⟨(Lib.trimS s.data.toList Ch.ws).toArray⟩:ay).data.toList=Lib.trimS s.data.toList Ch.ws:=rfl;rw[hdat,<-hso] at HN;have ac8:=D7 t;clear hso hdat hs PY hsl;generalize (⟨(Lib.trimS s.data.toList Ch.ws).toArray⟩:ay)=tv at *;generalize hz:(Ck.size t).1=z at *;generalize hok:(Ck.size t).2=ok at *;have HZ:=H9 hz;have qy:=H9 hok
     clear hz hok;have hz0:=ac8.1;have hz1:=ac8.2;clear ac8;cases ok
     . go_wp2_with fail
       refine tC.o.mono ?_;rintro e w3 ⟨rfl,hw⟩;subst hw;go_wp2_with fail
       refine(HN.o _).mono ?_;rintro e w4 ⟨rfl,hb4⟩;have jK:=H9 hb4;clear hb4;go_wp2;(try simp only[Exit.inBlock,Exit.then]);refine gy (gY rfl _ _ _) rfl ?_;have h:=HR.o.PW;rw[Ck.Y6 uV.o (by rw[HT.o];exact qy.o),HS.o] at h;exact lC.of body (p+sz) false 7 ao ca n _ (by rw[h];simp[Ck.shift]) HR.o.len (by omega) rfl (HRq.o.stay jK.o) (then_ PX.o jK.o)
     . obtain⟨k,rfl⟩:∃k:Nat,z=k:=⟨z.toNat,by omega⟩;have Ra:Hid ((Ck.size (Ln.of (b.drop p)).text).1.toNat=k):=by unfold Hid;rw[HT.o,HZ.o];simp
       have JZ:Hid ((Ck.size (Ln.of (b.drop p)).text).2=true):=by unfold Hid;rw[HT.o];exact qy.o
       clear HZ qy;by_cases h4:4000<n+k
       . have t4:decide ((n:Int)+k > 4000)=true:=aI (by omega);go_wp2_with fail
         refine tC.o.mono ?_;rintro e w3 ⟨rfl,hw⟩;subst hw;go_wp2_with fail
         refine(HN.o _).mono ?_;rintro e w4 ⟨rfl,hb4⟩;have jK:=H9 hb4;clear hb4;go_wp2;(try simp only[Exit.inBlock,Exit.then]);refine gy (gY rfl _ _ _) rfl ?_;have h:=HR.o.PW;rw[Ck.Y7 uV.o JZ.o (by rw[Ra.o];exact h4),HS.o] at h;exact lC.of body (p+sz) false 4 ao ca n _ (by rw[h];simp[Ck.shift]) HR.o.len (by omega) rfl (HRq.o.stay jK.o) (then_ PX.o jK.o)
       . have t4:decide ((n:Int)+k > 4000)=false:=aJ (by omega);by_cases hk0:k=0
         . subst hk0;have hof:=HR.o.PW;rw[Ck.Y8 uV.o JZ.o (by rw[Ra.o];exact h4) Ra.o,HS.o,Ck.nS,bW,eY] at hof;have mh:=H9 hof;have HLen:=H9 HR.o.len;have Q5:=H9 HR.o.f_
           clear hof HR;go_wp2_with fail
           refine tC.o.mono ?_;rintro e w3 ⟨rfl,hw⟩;subst hw;go_wp2_with fail
           refine(HN.o _).mono ?_;rintro e w4 ⟨rfl,hb4⟩;have jK:=H9 hb4;have HC2:Hid (abo w b (p+sz) 0 ao ca n body f w4):=⟨HRq.o.stay hb4,HLen.o,by omega,by have:=Q5.o;rw[bV] at this ⊢;omega,mh.o,then_ PX.o hb4⟩;clear hb4 HN tC mh HLen Q5 HRq PX HT HS Ra JZ uV t4 h4;have hq0:p+sz<=b.length:=by omega
           go_wp2;go_loopw [7,15] (fun va vk wr2=>∃(q m f2:Nat),q<=b.length∧va=.int .i64 q∧vk=.int .i64 m∧abo w b q m ao ca n body f2 wr2) (fun va _ _=>b.length+1-(intOf va).toNat)
           case atStart=>exact⟨p+sz,0,f,hq0,by go_num,rfl,HC2.o⟩
           case round =>
            clear HC2 jK hq0 hle hsz hac htl hp Ka;obtain⟨q,m,f2,hq,rfl,rfl,hR⟩:=hrel;have HR:=H9 hR;have an7:=hR.k_;clear hR;have hle:=Ln.of_le (b.drop q);have htl:=Ln.uP (b.drop q);rw[bV] at hle htl;by_cases hbad:(Ln.of (b.drop q)).code≠0∨(Ln.of (b.drop q)).ended=false
            . have hof:=HR.o.PW;rw[Ck.RQ hbad] at hof;have mh:=H9 hof;clear hof;by_cases hac:cap=q
              . have vL:=H9 (fun W hW=>Fw.o q 0 0 (some ⟨bb,oo,none⟩) hq (by omega) (by omega) (fun e=>absurd hac e) W hW);have hnil:b.drop q=[]:=aK (by omega);rw[hnil] at vL mh;have e0:Ln.of []=Ln.open_:=rfl;rw[e0] at vL mh;unfold Ln.open_ at vL mh;simp only at vL mh;have e1:b.length-q=0:=by omega
                clear hbad hle htl hnil e0;subst hac;go_wp2_with fail
                refine(vL.o _ HR.o.below).mono ?_;rintro e w1 ⟨rfl,hw⟩;subst hw;go_wp2;(try simp only[Exit.inBlock,Exit.then]);refine gy (gY rfl _ _ _) rfl ?_;exact lC.of body (cap+0) false 0 ao ca n _ (by rw[mh.o];simp[Ck.shift]) HR.o.len (by omega) rfl HR.o.own HR.o.below
              . have vL:=H9 (fun W hW=>Fw.o q (b.length-q) (cap-q) (some ⟨bb,oo+q,none⟩) hq rfl rfl (fun _=>rfl) W hW);generalize Ln.of (b.drop q)=L at *;obtain⟨t,sz,en,lc⟩:=L;simp only at *;generalize (⟨t.toArray⟩:ay)=tb at *;by_cases hlc:lc=0
                . subst hlc;have hen:en=false:=by
                   rcases hbad with h | h
                   . exact absurd rfl h
                   . exact h
                  subst hen;clear hbad;go_wp2_with fail
                  refine(vL.o _ HR.o.below).mono ?_;rintro e w1 ⟨rfl,hw⟩;subst hw;go_wp2;(try simp only[Exit.inBlock,Exit.then]);refine gy (gY rfl _ _ _) rfl ?_;exact lC.of body (q+sz) false 0 ao ca n _ (by rw[mh.o];simp[Ck.shift]) HR.o.len (by omega) rfl HR.o.own HR.o.below
                . have tlc:((lc:Int) != 0)=true:=by rw[cZ];omega
                  clear hbad;go_wp2_with fail
                  refine(vL.o _ HR.o.below).mono ?_;rintro e w1 ⟨rfl,hw⟩;subst hw;go_wp2;(try simp only[Exit.inBlock,Exit.then]);refine gy (gY rfl _ _ _) rfl ?_;exact lC.of body (q+sz) false lc ao ca n _ (by rw[mh.o];simp[Ck.shift]) HR.o.len (by omega) rfl HR.o.own HR.o.below
            . obtain⟨hlc,hen,hsz⟩:=IX hbad;have hac:¬cap=q:=by omega
              have vL:=H9 (fun W hW=>Fw.o q (b.length-q) (cap-q) (some ⟨bb,oo+q,none⟩) hq rfl rfl (fun _=>rfl) W hW);rw[hlc,hen] at vL;have uV:=H9 hbad;have oW:=H9 (fun W=>Cw ⟨(Ln.of (b.drop q)).text.toArray⟩ W (by show(Ln.of (b.drop q)).text.toArray.size<=_;rw[bM];omega));have hdat:(⟨(Ln.of (b.drop q)).text.toArray⟩:ay).data.toList=(Ln.of (b.drop q)).text:=rfl;rw[hdat] at oW;unfold Fd.val at oW;have hof:=HR.o.PW;clear hbad hlc hen hdat;by_cases htx:(Ln.of (b.drop q)).text=[]
              . rw[Ck.RS uV.o htx] at hof;rw[htx] at vL;have mh:=H9 hof;clear hof oW uV;generalize (Ln.of (b.drop q)).size=sz at *;go_wp2_with fail
                refine(vL.o _ HR.o.below).mono ?_;rintro e w1 ⟨rfl,hw⟩;subst hw;go_wp2;(try simp only[Exit.inBlock,Exit.then]);refine gy (gY rfl _ _ _) rfl ?_;exact lC.of body (q+sz) true 0 ao ca n _ (by rw[mh.o];simp[Ck.shift]) HR.o.len (by omega) rfl HR.o.own HR.o.below
              . have ttx:((⟨(Ln.of (b.drop q)).text.toArray⟩:ay).toList==[])=false:=by rw[aS,Lib.toList_data];exact htx
                by_cases h16:m=16
                . rw[Ck.NJ uV.o htx h16] at hof;have mh:=H9 hof;clear hof oW uV htx;subst h16;generalize (Ln.of (b.drop q)).size=sz at *;generalize (⟨(Ln.of (b.drop q)).text.toArray⟩:ay)=tb at *;go_wp2_with fail
                  refine(vL.o _ HR.o.below).mono ?_;rintro e w1 ⟨rfl,hw⟩;subst hw;go_wp2;(try simp only[Exit.inBlock,Exit.then]);refine gy (gY rfl _ _ _) rfl ?_;exact lC.of body (q+sz) false 8 ao ca n _ (by rw[mh.o];simp[Ck.shift]) HR.o.len (by omega) rfl HR.o.own HR.o.below
                . have t16:((m:Int)==16)=false:=by rw[aS];omega
                  by_cases hfc:(Fd.of (Ln.of (b.drop q)).text).code=0
                  . have hfq:=HR.o.f_;rw[bV] at hfq;obtain⟨f3,rfl⟩:∃f3,f2=f3+1:=⟨f2-1,by omega⟩;rw[Ck.NM uV.o htx h16 hfc,Ck.nS,bW,eY] at hof;rw[hfc] at oW;have mh:=H9 hof;have HF3:Hid ((b.drop (q+(Ln.of (b.drop q)).size)).length<f3+1):=by unfold Hid;rw[bV];omega
                    clear hof uV htx hfc;generalize (⟨(Fd.of (Ln.of (b.drop q)).text).name.toArray⟩:ay)=nm at oW;generalize (⟨(Fd.of (Ln.of (b.drop q)).text).value.toArray⟩:ay)=vl at oW;generalize (Ln.of (b.drop q)).size=sz at *;generalize (⟨(Ln.of (b.drop q)).text.toArray⟩:ay)=tb at *;go_wp2_with fail
                    refine(vL.o _ HR.o.below).mono ?_;rintro e w1 ⟨rfl,hw⟩;subst hw;go_wp2_with fail
                    refine(oW.o _).mono ?_;rintro e w2 ⟨rfl,hb2⟩;have HB2:=H9 hb2;clear hb2;go_wp2;go_roundw
                    case rel =>
                     have hb3:=HB2.o.alloc HB2.o.size (.cells #[.string nm,.string vl] 111);exact⟨q+sz,m+1,f3,by omega,by go_num,by go_num,⟨HR.o.own.stay hb3,HR.o.len,by omega,HF3.o,mh.o,then_ HR.o.below hb3⟩⟩
                    case measure=>simp[intOf];omega
                  . have tfc:(((Fd.of (Ln.of (b.drop q)).text).code:Int) != 0)=true:=by rw[cZ];omega
                    rw[Ck.NK uV.o htx h16 hfc] at hof;have mh:=H9 hof;clear hof uV htx hfc;generalize (⟨(Fd.of (Ln.of (b.drop q)).text).name.toArray⟩:ay)=nm at oW;generalize (⟨(Fd.of (Ln.of (b.drop q)).text).value.toArray⟩:ay)=vl at oW;generalize (Fd.of (Ln.of (b.drop q)).text).code=fc at *;generalize (Ln.of (b.drop q)).size=sz at *;generalize (⟨(Ln.of (b.drop q)).text.toArray⟩:ay)=tb at *;go_wp2_with fail
                    refine(vL.o _ HR.o.below).mono ?_;rintro e w1 ⟨rfl,hw⟩;subst hw;go_wp2_with fail
                    refine(oW.o _).mono ?_;rintro e w2 ⟨rfl,hb2⟩;have HB2:=H9 hb2;clear hb2;go_wp2;(try simp only[Exit.inBlock,Exit.then]);refine gy (gY rfl _ _ _) rfl ?_;have hb3:=HB2.o.alloc HB2.o.size (.cells #[.string nm,.string vl] 111);exact lC.of body (q+sz) false fc ao ca n _ (by rw[mh.o];simp[Ck.shift]) HR.o.len (by omega) rfl (HR.o.own.stay hb3) (then_ HR.o.below hb3)
         . have tk:((k:Int)==0)=false:=by rw[aS];omega
           have wz:=H9 (fun W (hW:aj wc W)=>HRq.o.stay hW);by_cases hsh:b.length-(p+sz)<k
           . have tsh:decide ((b.length:Int)-((p:Int)+sz)<k)=true:=aI (by omega);have e1:(p:Int)+sz<=b.length:=by omega
             have e2:((p:Int)+sz).toNat=p+sz:=by omega
             have HD:Hid (b.drop (p+sz)=(b.drop p).drop sz):=by unfold Hid;rw[eY]
             have hdl:(b.drop (p+sz)).length=b.length-(p+sz):=bV;have PZ:=H9 hdl;clear hdl;have HI4:=H9 (fun W (hW:aj w W) (gW:ak) (ha:cap≠p+sz->gW=some ⟨bb,oo+(p+sz),none⟩)=>show iH W gW (cap-(p+sz)) (b.drop (p+sz)) by
              have:=(HB.o.stay hW).cut (gW:=gW) (p+sz) b.length (by omega) (aM _) (fun e=>by rw[ha e];simp[gI]);rwa[dO (by rw[bV];omega)] at this)
             have hof:=HR.o.PW;rw[Ck.VZ uV.o JZ.o (by rw[Ra.o];omega) (by rw[Ra.o];exact hk0) (by rw[Ra.o,HS.o,bV,bV];omega),HS.o,<-HD.o] at hof;have mh:=H9 hof;have HLen:=H9 HR.o.len;clear hof HR Fw;by_cases hc2:cap=p+sz
             . subst hc2;have e3:b.length-(p+sz)=0:=by omega
               have hd0:b.drop (p+sz)=[]:=aK (by omega);rw[hd0] at mh;have HI5:=H9 (fun(W:World)=>(show iH W (some ⟨bb,oo,none⟩) 0 [] from⟨aM _,fun _=>rfl,fun j hj=>by cases hj⟩));clear HI4 hd0 HD PZ;go_wp2_with fail
               refine tC.o.mono ?_;rintro e w3 ⟨rfl,hw⟩;subst hw;go_wp2_with fail
               refine(HN.o _).mono ?_;rintro e w4 ⟨rfl,hb4⟩;have jK:=H9 (then_ PX.o hb4);have tH:=H9 (wz.o _ hb4)
               clear hb4;go_wp2_with (at_builtin;refine iJ rfl (.tmp 78) (.tmp 81) 31 rfl w.heap.size 5 i0 underlying31 Hi.o kK.o kH.o kL.o (l:=body) (l2:=[]) rfl HLen.o tH.o rfl rfl (HI5.o _) (by omega) jK.o.size ?_;intro jQ gX w5 hO3 hG3 _;have oD:=H9 hO3;have sG:=H9 (jK.o.trans (kE tH.o hG3 jK.o.size));clear hO3 hG3)
               (try simp only[Exit.inBlock,Exit.then]);refine gy (gY rfl _ _ _) rfl ?_;exact lC.of (body++[]) (p+(sz+0)) false 0 jQ gX (n+0) _ (by rw[mh.o];rfl) (by rw[aW,HLen.o];rfl) (by omega) rfl oD.o sG.o
             . have HI5:=H9 (fun W hW=>HI4.o W hW (some ⟨bb,oo+(p+sz),none⟩) (fun _=>rfl));clear HI4;go_wp2_with fail
               refine tC.o.mono ?_;rintro e w3 ⟨rfl,hw⟩;subst hw;go_wp2_with fail
               refine(HN.o _).mono ?_;rintro e w4 ⟨rfl,hb4⟩;have jK:=H9 (then_ PX.o hb4);have tH:=H9 (wz.o _ hb4)
               clear hb4;go_wp2_with (at_builtin;refine iJ rfl (.tmp 78) (.tmp 81) 31 rfl w.heap.size 5 i0 underlying31 Hi.o kK.o kH.o kL.o (l:=body) (l2:=b.drop (p+sz)) rfl HLen.o tH.o rfl PZ.o (HI5.o _ jK.o) (by omega) jK.o.size ?_;intro jQ gX w5 hO3 hG3 _;have oD:=H9 hO3;have sG:=H9 (jK.o.trans (kE tH.o hG3 jK.o.size));clear hO3 hG3)
               (try simp only[Exit.inBlock,Exit.then]);refine gy (gY rfl _ _ _) rfl ?_;exact lC.of (body++b.drop (p+sz)) (p+(sz+(b.drop (p+sz)).length)) false 0 jQ gX _ _ (by rw[mh.o];rfl) (by rw[aW,HLen.o,PZ.o]) (by rw[PZ.o];omega) rfl oD.o sG.o
           . have tsh:decide ((b.length:Int)-((p:Int)+sz)<k)=false:=aJ (by omega);have e1:(p:Int)+sz<=(p:Int)+sz+k:=by omega
             have e2:(p:Int)+sz+k<=cap:=by omega
             have e3:((p:Int)+sz).toNat=p+sz:=by omega
             have e4:((p:Int)+sz+k).toNat=p+sz+k:=by omega
             have e5:p+sz+k-(p+sz)=k:=by omega
             have e6:¬cap=p+sz:=by omega
             have e7:(p:Int)+sz+k<=b.length:=by omega
             have hp2:p+sz+k<=b.length:=by omega
             have hdl:((b.drop (p+sz)).take k).length=k:=by rw[bY,bV];omega
             have HI4:=H9 (fun W (hW:aj w W)=>show iH W (some ⟨bb,oo+(p+sz),none⟩) (cap-(p+sz)) ((b.drop (p+sz)).take k) by
              have:=(HB.o.stay hW).cut (gW:=some ⟨bb,oo+(p+sz),none⟩) (p+sz) (p+sz+k) (by omega) hp2 (fun e=>by simp[gI]);rwa[e5] at this)
             have PZ:=H9 hdl;have HLen:=H9 HR.o.len;have h4':¬4000<n+(Ck.size (Ln.of (b.drop p)).text).1.toNat:=by rw[Ra.o];exact h4
             have hk0':¬(Ck.size (Ln.of (b.drop p)).text).1.toNat=0:=by rw[Ra.o];exact hk0
             have hsh':¬((b.drop p).drop (Ln.of (b.drop p)).size).length<(Ck.size (Ln.of (b.drop p)).text).1.toNat:=by rw[Ra.o,HS.o,bV,bV];omega
             have hdd:((b.drop p).drop (Ln.of (b.drop p)).size).drop (Ck.size (Ln.of (b.drop p)).text).1.toNat=b.drop (p+sz+k):=by rw[Ra.o,HS.o,eY,eY,<-bL]
             have hd1:(b.drop p).drop (Ln.of (b.drop p)).size=b.drop (p+sz):=by rw[HS.o,eY]
             have hof:=HR.o.PW;have hle2:=Ln.of_le (b.drop (p+sz+k));have PY:=Ln.uP (b.drop (p+sz+k));rw[bV] at hle2 PY;have Q5:=H9 HR.o.f_;clear hdl HR;by_cases yJ:(Ln.of (b.drop (p+sz+k))).code≠0∨(Ln.of (b.drop (p+sz+k))).ended=false
             . rw[Ck.Y9 uV.o JZ.o h4' hk0' hsh' (by rw[hdd];exact yJ),hdd,hd1,Ra.o,HS.o] at hof;have mh:=H9 hof;clear hof h4' hk0' hsh' hdd hd1;generalize (b.drop (p+sz)).take k=x at *;by_cases hc2:cap=p+sz+k
               . have HL2:=H9 (fun W hW=>Fw.o (p+sz+k) 0 0 (some ⟨bb,oo,none⟩) hp2 (by omega) (by omega) (fun e=>absurd hc2 e) W hW);have hnil:b.drop (p+sz+k)=[]:=aK (by omega);rw[hnil] at HL2 mh;have e0:Ln.of []=Ln.open_:=rfl;rw[e0] at HL2 mh;unfold Ln.open_ at HL2 mh;simp only at HL2 mh;have e8:b.length-(p+sz+k)=0:=by omega
                 clear yJ hle2 PY hnil e0 Fw HB;subst hc2;simp only[e5] at HI4;go_wp2_with fail
                 refine tC.o.mono ?_;rintro e w3 ⟨rfl,hw⟩;subst hw;go_wp2_with fail
                 refine(HN.o _).mono ?_;rintro e w4 ⟨rfl,hb4⟩;have jK:=H9 (then_ PX.o hb4);have tH:=H9 (wz.o _ hb4)
                 clear hb4;go_wp2_with (at_builtin;refine iJ rfl (.tmp 85) (.tmp 91) 31 rfl w.heap.size 5 i0 underlying31 Hi.o kK.o kH.o kL.o (l:=body) (l2:=x) rfl HLen.o tH.o rfl PZ.o (HI4.o _ jK.o) (by omega) jK.o.size ?_;intro jQ gX w5 hO3 hG3 _;have oD:=H9 hO3;have sG:=H9 (jK.o.trans (kE tH.o hG3 jK.o.size));clear hO3 hG3)
                 refine(HL2.o _ sG.o).mono ?_;rintro e w6 ⟨rfl,hw⟩;subst hw;go_wp2;(try simp only[Exit.inBlock,Exit.then]);refine gy (gY rfl _ _ _) rfl ?_;exact lC.of (body++x) (p+(sz+k+0)) false 0 jQ gX (n+k) _ (by rw[mh.o];simp[Ck.shift]) (by rw[aW,HLen.o,PZ.o]) (by omega) rfl oD.o sG.o
               . have HL2:=H9 (fun W hW=>Fw.o (p+sz+k) (b.length-(p+sz+k)) (cap-(p+sz+k)) (some ⟨bb,oo+(p+sz+k),none⟩) hp2 rfl rfl (fun _=>rfl) W hW);clear Fw HB;generalize Ln.of (b.drop (p+sz+k))=L at *;obtain⟨t2,kI,en,lc⟩:=L;simp only at *;generalize (⟨t2.toArray⟩:ay)=tb2 at *;by_cases hlc:lc=0
                 . subst hlc;have hen:en=false:=by
                    rcases yJ with h | h
                    . exact absurd rfl h
                    . exact h
                   subst hen;clear yJ;go_wp2_with fail
                   refine tC.o.mono ?_;rintro e w3 ⟨rfl,hw⟩;subst hw;go_wp2_with fail
                   refine(HN.o _).mono ?_;rintro e w4 ⟨rfl,hb4⟩;have jK:=H9 (then_ PX.o hb4);have tH:=H9 (wz.o _ hb4)
                   clear hb4;go_wp2_with (at_builtin;refine iJ rfl (.tmp 85) (.tmp 91) 31 rfl w.heap.size 5 i0 underlying31 Hi.o kK.o kH.o kL.o (l:=body) (l2:=x) rfl HLen.o tH.o rfl PZ.o (HI4.o _ jK.o) (by omega) jK.o.size ?_;intro jQ gX w5 hO3 hG3 _;have oD:=H9 hO3;have sG:=H9 (jK.o.trans (kE tH.o hG3 jK.o.size));clear hO3 hG3)
                   refine(HL2.o _ sG.o).mono ?_;rintro e w6 ⟨rfl,hw⟩;subst hw;go_wp2;(try simp only[Exit.inBlock,Exit.then]);refine gy (gY rfl _ _ _) rfl ?_;exact lC.of (body++x) (p+(sz+k+kI)) false 0 jQ gX (n+k) _ (by rw[mh.o];simp[Ck.shift]) (by rw[aW,HLen.o,PZ.o]) (by omega) rfl oD.o sG.o
                 . have tlc:((lc:Int) != 0)=true:=by rw[cZ];omega
                   clear yJ;go_wp2_with fail
                   refine tC.o.mono ?_;rintro e w3 ⟨rfl,hw⟩;subst hw;go_wp2_with fail
                   refine(HN.o _).mono ?_;rintro e w4 ⟨rfl,hb4⟩;have jK:=H9 (then_ PX.o hb4);have tH:=H9 (wz.o _ hb4)
                   clear hb4;go_wp2_with (at_builtin;refine iJ rfl (.tmp 85) (.tmp 91) 31 rfl w.heap.size 5 i0 underlying31 Hi.o kK.o kH.o kL.o (l:=body) (l2:=x) rfl HLen.o tH.o rfl PZ.o (HI4.o _ jK.o) (by omega) jK.o.size ?_;intro jQ gX w5 hO3 hG3 _;have oD:=H9 hO3;have sG:=H9 (jK.o.trans (kE tH.o hG3 jK.o.size));clear hO3 hG3)
                   refine(HL2.o _ sG.o).mono ?_;rintro e w6 ⟨rfl,hw⟩;subst hw;go_wp2;(try simp only[Exit.inBlock,Exit.then]);refine gy (gY rfl _ _ _) rfl ?_;exact lC.of (body++x) (p+(sz+k+kI)) false lc jQ gX (n+k) _ (by rw[mh.o];simp[Ck.shift]) (by rw[aW,HLen.o,PZ.o]) (by omega) rfl oD.o sG.o
             . obtain⟨hlc,hen,hsz2⟩:=IX yJ;have hc2:¬cap=p+sz+k:=by omega
               have HL2:=H9 (fun W hW=>Fw.o (p+sz+k) (b.length-(p+sz+k)) (cap-(p+sz+k)) (some ⟨bb,oo+(p+sz+k),none⟩) hp2 rfl rfl (fun _=>rfl) W hW);rw[hlc,hen] at HL2;clear Fw HB hlc hen;by_cases htx:(Ln.of (b.drop (p+sz+k))).text=[]
               . have hfq:=Q5.o;rw[bV] at hfq;obtain⟨f3,rfl⟩:∃f3,f=f3+1:=⟨f-1,by omega⟩;rw[Ck.Zb uV.o JZ.o h4' hk0' hsh' (by rw[hdd];exact yJ) (by rw[hdd];exact htx),hdd,hd1,Ra.o,HS.o,Ck.nS,eY] at hof;rw[htx] at HL2;have mh:=H9 hof;clear hof h4' hk0' hsh' hdd hd1 yJ htx PY hfq;generalize (Ln.of (b.drop (p+sz+k))).size=kI at *;generalize (b.drop (p+sz)).take k=x at *;go_wp2_with fail
                 refine tC.o.mono ?_;rintro e w3 ⟨rfl,hw⟩;subst hw;go_wp2_with fail
                 refine(HN.o _).mono ?_;rintro e w4 ⟨rfl,hb4⟩;have jK:=H9 (then_ PX.o hb4);have tH:=H9 (wz.o _ hb4)
                 clear hb4;go_wp2_with (at_builtin;refine iJ rfl (.tmp 85) (.tmp 91) 31 rfl w.heap.size 5 i0 underlying31 Hi.o kK.o kH.o kL.o (l:=body) (l2:=x) rfl HLen.o tH.o rfl PZ.o (HI4.o _ jK.o) (by omega) jK.o.size ?_;intro jQ gX w5 hO3 hG3 _;have oD:=H9 hO3;have sG:=H9 (jK.o.trans (kE tH.o hG3 jK.o.size));clear hO3 hG3)
                 refine(HL2.o _ sG.o).mono ?_;rintro e w6 ⟨rfl,hw⟩;subst hw;go_wp2;go_roundw
                 case rel =>
                  have hff:=Q5.o;rw[bV] at hff;refine⟨p+(sz+k+kI),n+k,jQ,gX,body++x,f3,by omega,by go_num,by go_num,⟨oD.o,by rw[aW,HLen.o,PZ.o],by omega,by rw[bV];omega,?_,sG.o⟩⟩;have h:=mh.o;rw[show p+sz+k+kI=p+(sz+k+kI) by omega] at h;exact h
                 case measure=>simp[intOf];omega
               . have ttx:((⟨(Ln.of (b.drop (p+sz+k))).text.toArray⟩:ay).toList==[])=false:=by rw[aS,Lib.toList_data];exact htx
                 rw[Ck.Za uV.o JZ.o h4' hk0' hsh' (by rw[hdd];exact yJ) (by rw[hdd];exact htx),hdd,hd1,Ra.o,HS.o] at hof;have mh:=H9 hof;clear hof h4' hk0' hsh' hdd hd1 yJ htx PY;generalize (Ln.of (b.drop (p+sz+k))).size=kI at *;generalize (⟨(Ln.of (b.drop (p+sz+k))).text.toArray⟩:ay)=tb2 at *;generalize (b.drop (p+sz)).take k=x at *;go_wp2_with fail
                 refine tC.o.mono ?_;rintro e w3 ⟨rfl,hw⟩;subst hw;go_wp2_with fail
                 refine(HN.o _).mono ?_;rintro e w4 ⟨rfl,hb4⟩;have jK:=H9 (then_ PX.o hb4);have tH:=H9 (wz.o _ hb4)
                 clear hb4;go_wp2_with (at_builtin;refine iJ rfl (.tmp 85) (.tmp 91) 31 rfl w.heap.size 5 i0 underlying31 Hi.o kK.o kH.o kL.o (l:=body) (l2:=x) rfl HLen.o tH.o rfl PZ.o (HI4.o _ jK.o) (by omega) jK.o.size ?_;intro jQ gX w5 hO3 hG3 _;have oD:=H9 hO3;have sG:=H9 (jK.o.trans (kE tH.o hG3 jK.o.size));clear hO3 hG3)
                 refine(HL2.o _ sG.o).mono ?_;rintro e w6 ⟨rfl,hw⟩;subst hw;go_wp2;(try simp only[Exit.inBlock,Exit.then]);refine gy (gY rfl _ _ _) rfl ?_;exact lC.of (body++x) (p+(sz+k+kI)) false 5 jQ gX (n+k) _ (by rw[mh.o];simp[Ck.shift]) (by rw[aW,HLen.o,PZ.o]) (by omega) rfl oD.o sG.o
end Go.Proofs.YtjmndjmhjleabaaGreatDoor