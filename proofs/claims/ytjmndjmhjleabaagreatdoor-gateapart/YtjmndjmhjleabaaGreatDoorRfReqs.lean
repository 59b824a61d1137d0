/- The document's own answer for requests, walked: Requests. -/
import Derived.Test.YtjmndjmhjleabaaGreatDoorAl
import Derived.Test.YtjmndjmhjleabaaGreatDoorAm
import Derived.Test.YtjmndjmhjleabaaGreatDoorPk43
set_option maxHeartbeats 6000000
set_option maxRecDepth 100000
open Go.Proofs.Tryz
namespace Go.Proofs.YtjmndjmhjleabaaGreatDoor
open Go.RowKit
theorem Gr (b:av)(bb oo cap:Nat)(w:World)(hb:iH w (some ⟨bb,oo,none⟩) cap b)(h9:b.length<=20000):
 Calls prog 19 #[.slice (some ⟨bb,oo,none⟩) b.length cap] w fun e w'=>uw w b e w':=by
 have HB:=H9 hb;have Fw:=H9 (fun k n c ao hk hn hc ha W hW=>MO hb h9 k n c ao hk hn hc ha W hW);have hcap:=hb.1;clear hb;go_enter func19,ntmps19;go_wp2;go_loopw [6] (fun va wr=>∃(p n:Nat) (ao:ak) (ca:Nat) (es:List Rq.Ev) (f:Nat),p<=b.length∧va=.int .i64 p∧afx w b p ao ca n es f wr) (fun va _=>b.length+1-(intOf va).toNat)
 case atStart=>exact⟨0,0,none,0,[],b.length,aA _,rfl,⟨wX.start w,by simp,by simp[Rq.of],aA _⟩⟩
 case round =>
  obtain⟨p,n,ao,ca,es,f,hp,rfl,hR⟩:=hrel;have HR:=H9 hR;have hn6:n<=60000:=by have:=hR.few;omega
  have c0:wr.cell? ⟨w.heap.size,0,none⟩=some (.slice ao n ca):=hR.rs.cell.cell 0;clear hR;go_upto_region 4 with fail
  go_cut [7,8,9,10] from 18 to 187 (fun v7 v8 v9 v10 wd=>v7=.string ⟨(Ln.of (b.drop p)).text.toArray⟩∧v8=.int .i64 ((Ln.of (b.drop p)).size:Int)∧v9=.bool (Ln.of (b.drop p)).ended∧v10=.int .i64 ((Ln.of (b.drop p)).code:Int)∧wd=wr)
  case first =>
   by_cases hac:cap=p
   . have vL:=H9 (fun W hW=>Fw.o p 0 0 (some ⟨bb,oo,none⟩) hp (by omega) (by omega) (fun e=>absurd hac e) W hW);have e1:b.length-p=0:=by omega
     have e2:cap-p=0:=by omega
     generalize Ln.of (b.drop p)=L at *;subst hac;go_wp2_with fail
     refine(vL.o _ HR.o.rs.cell.below).mono ?_;rintro e w1 ⟨rfl,hw⟩;subst hw;go_wp2;go_meet;exact⟨rfl,rfl,rfl,rfl,rfl⟩
   . have vL:=H9 (fun W hW=>Fw.o p (b.length-p) (cap-p) (some ⟨bb,oo+p,none⟩) hp rfl rfl (fun _=>rfl) W hW);generalize Ln.of (b.drop p)=L at *;go_wp2_with fail
     refine(vL.o _ HR.o.rs.cell.below).mono ?_;rintro e w1 ⟨rfl,hw⟩;subst hw;go_wp2;go_meet;exact⟨rfl,rfl,rfl,rfl,rfl⟩
  case rest =>
   obtain⟨rfl,rfl,rfl,rfl,hw⟩:=hcut;subst hw;have hle:=Ln.of_le (b.drop p);have htl:=Ln.uP (b.drop p);rw[bV] at hle htl;have mh:=H9 HR.o.PW;by_cases hlc:(Ln.of (b.drop p)).code=0
   . have HT2:=H9 (Ln.Cv (b.drop p));by_cases hen:(Ln.of (b.drop p)).ended=true
     . have hsz:0<(Ln.of (b.drop p)).size:=by
        rcases fF (Ln.of (b.drop p)).size with h | h
        . have:=Ck.oZ h;rw[hen] at this;cases this.2
        . exact h
       have UA:Hid (∀k,(b.drop p).drop k=b.drop (p+k)):=fun k=>eY;have hfu:=HR.o.f_;rw[bV] at hfu;obtain⟨f',rfl⟩:∃f',f=f'+1:=⟨f-1,by omega⟩;by_cases htx:(Ln.of (b.drop p)).text=[]
       . rw[Rq.X9 hlc hen htx,UA.o] at mh;rw[hlc,hen,htx];generalize (Ln.of (b.drop p)).size=sz at *;clear hlc hen htx htl HT2 UA;go_wp2;go_roundw
         case rel=>exact⟨p+sz,n,ao,ca,es,f',by omega,by go_num,⟨HR.o.rs,by rw[bV];omega,mh.o,by have:=HR.o.few;omega⟩⟩
         case measure=>simp[intOf];omega
       . have ttx:((⟨(Ln.of (b.drop p)).text.toArray⟩:ay).toList==[])=false:=by rw[aS,Lib.toList_data];exact htx
         have IJ:=H9 (fun W=>Gp ⟨(Ln.of (b.drop p)).text.toArray⟩ W (by show(Ln.of (b.drop p)).text.toArray.size<=_;rw[bM];have:=HT2.o;omega));have hdat:(⟨(Ln.of (b.drop p)).text.toArray⟩:ay).data.toList=(Ln.of (b.drop p)).text:=rfl;rw[hdat] at IJ;cases hfi:Rq.first (Ln.of (b.drop p)).text with
         | inl c =>
           rw[Rq.NI hlc hen htx hfi] at mh;rw[hfi] at IJ;unfold Rq.FL at IJ;simp only at IJ;have hcz:c≠0:=Rq.PS hfi;have tc:((c:Int) != 0)=true:=by rw[cZ];omega
           rw[hlc,hen];clear hfi hdat htx hlc hen htl HT2 UA hcz;generalize (Ln.of (b.drop p)).size=sz at *;generalize (⟨(Ln.of (b.drop p)).text.toArray⟩:ay)=tb at *;go_wp2_with fail
           refine(IJ.o _).mono ?_;rintro e w1 ⟨rfl,hb1⟩;have Bu:=H9 (HR.o.rs.stay hb1);have HF:=H9 (fun ob=>mV w (w1.alloc ob) ao ca n c es (Bu.o.stay ((fJ _ _).alloc (aM _) _)) (by omega));clear hb1 IJ c0;go_wp2_with fail
           refine(HF.o _).mono ?_;rintro e w2 ⟨a2,c2,rfl,hW,hB⟩;have HW:=H9 hW;have UC:=H9 hB
           clear hW hB;go_wp2;go_ret2;exact uw.of mh.o (by rw[aW,<-HR.o.rs.len];rfl) rfl HW.o UC.o
         | inr h =>
           rw[Rq.Ya hlc hen htx hfi,UA.o] at mh;rw[hfi] at IJ;unfold Rq.FL at IJ;simp only at IJ;have hgd:=Rq.DR HT2.o hfi;have hf0:=Rq.zB hfi;rw[hlc,hen];have HDs:Hid (p+(Ln.of (b.drop p)).size<=b.length∧0<(Ln.of (b.drop p)).size):=⟨by omega,hsz⟩;clear hfi hdat htx hlc hen htl HT2 UA;generalize (Ln.of (b.drop p)).size=sz at *;generalize (⟨(Ln.of (b.drop p)).text.toArray⟩:ay)=tb at *;go_wp2_with fail
           refine(IJ.o _).mono ?_;rintro e w1 ⟨rfl,hb1⟩;have Bu:=H9 (HR.o.rs.stay hb1);have ajG:=H9 HR.o.few;have HR2:Hid (abq w w1 b (p+sz) ao ca n es (f'+1) (f'+1) h none 0 0 (w1.alloc (.cells #[.string ⟨h.method.toArray⟩,.string ⟨h.target.toArray⟩,.int .i64 (h.minor:Int),.slice none 0 0,.int .i64 0] 68))):=⟨⟨jJ.made _ _ _,(by rw[hf0];exact gV.nil _ _ _ _),by rw[hf0];rfl⟩,by rw[bV];omega,by rw[hf0];exact mh.o,hgd.1⟩;clear hb1 IJ c0 mh hgd hf0 HR ttx;go_wp2;go_loopw [6] (fun va wr=>∃(q f2 nf:Nat) (hd:Rq.Hd) (fo:ak) (gM:Nat),p+sz<=q∧q<=b.length∧va=.int .i64 q∧abq w w1 b q ao ca n es (f'+1) f2 hd fo gM nf wr) (fun va _=>b.length+1-(intOf va).toNat)
           case atStart=>exact⟨p+sz,f'+1,0,h,none,0,aM _,HDs.o.1,by go_num,HR2.o⟩
           case round =>
            clear HR2;obtain⟨q,f2,nf,hd,fo,gM,hpq,hq,rfl,hR2⟩:=hrel;have HR2:=H9 hR2;clear hR2;generalize hd=h at *;have c0:wr.cell? ⟨w.heap.size,0,none⟩=some (.slice ao n ca):=(Bu.o.stay HR2.o.hb.one.below).cell.cell 0;have b3:wr.cell? ⟨w1.heap.size,3,none⟩=some (.slice fo nf gM):=HR2.o.hb.one.cell 3;have Aq:Hid (wX w ao ca n es wr):=Bu.o.stay HR2.o.hb.one.below;go_upto_region 14 with fail
            go_cut [7,8,9,10] from 58 to 107 (fun v7 v8 v9 v10 wd=>v7=.string ⟨(Ln.of (b.drop q)).text.toArray⟩∧v8=.int .i64 ((Ln.of (b.drop q)).size:Int)∧v9=.bool (Ln.of (b.drop q)).ended∧v10=.int .i64 ((Ln.of (b.drop q)).code:Int)∧wd=wr)
            case first =>
             by_cases hac:cap=q
             . have vL:=H9 (fun W hW=>Fw.o q 0 0 (some ⟨bb,oo,none⟩) hq (by omega) (by omega) (fun e=>absurd hac e) W hW);have e1:b.length-q=0:=by omega
               have e2:cap-q=0:=by omega
               generalize Ln.of (b.drop q)=L at *;subst hac;go_wp2_with fail
               refine(vL.o _ Aq.o.cell.below).mono ?_;rintro e w2 ⟨rfl,hw⟩;subst hw;go_wp2;go_meet;exact⟨rfl,rfl,rfl,rfl,rfl⟩
             . have vL:=H9 (fun W hW=>Fw.o q (b.length-q) (cap-q) (some ⟨bb,oo+q,none⟩) hq rfl rfl (fun _=>rfl) W hW);generalize Ln.of (b.drop q)=L at *;go_wp2_with fail
               refine(vL.o _ Aq.o.cell.below).mono ?_;rintro e w2 ⟨rfl,hw⟩;subst hw;go_wp2;go_meet;exact⟨rfl,rfl,rfl,rfl,rfl⟩
            case rest =>
             obtain⟨rfl,rfl,rfl,rfl,hw⟩:=hcut;subst hw;have hle2:=Ln.of_le (b.drop q);rw[bV] at hle2;have mh:=H9 HR2.o.PW;have HT2:=H9 (Ln.Cv (b.drop q));by_cases hlc:(Ln.of (b.drop q)).code=0
             . by_cases hen:(Ln.of (b.drop q)).ended=true
               . have hsz2:0<(Ln.of (b.drop q)).size:=by
                  rcases fF (Ln.of (b.drop q)).size with h | h
                  . have:=Ck.oZ h;rw[hen] at this;cases this.2
                  . exact h
                 have UA:Hid (∀k,(b.drop q).drop k=b.drop (q+k)):=fun k=>eY;have hfu2:=HR2.o.f_;rw[bV] at hfu2;obtain⟨f3,rfl⟩:∃f3,f2=f3+1:=⟨f2-1,by omega⟩;by_cases htx:(Ln.of (b.drop q)).text=[]
                 . rw[Rq.Yb hlc hen htx,UA.o] at mh;have hlo:=J4 ⟨h.method.toArray⟩ ⟨h.target.toArray⟩ h.minor 0 (Rq.ny h.fields) fo gM wc (by have:=HR2.o.hb.row.nQ;rw[HR2.o.hb.len] at this;rw[Rq.kV];exact this) (by rw[Rq.kV];exact HR2.o.good.many) (fun x hx=>by
                    unfold Rq.ny at hx;obtain⟨y,hy,rfl⟩:=aN.1 hx;have:=HR2.o.good.fields y hy;refine⟨?_,?_⟩
                    . show y.1.toArray.size<=_;rw[bM];omega
                    . show y.2.toArray.size<=_;rw[bM];omega)
                   rw[Rq.Jm,Rq.kV,<-HR2.o.hb.len] at hlo;have sS:Hid (Calls prog 45 #[.agg #[.string ⟨h.method.toArray⟩,.string ⟨h.target.toArray⟩,.int .i64 (h.minor:Int),.slice fo nf gM,.int .i64 0]] wc fun e w'=>e=.returned (Rq.lenVal (Rq.len h))∧aj wc w'):=hlo;have g0:wc.cell? ⟨w1.heap.size,0,none⟩=some (.string ⟨h.method.toArray⟩):=HR2.o.hb.one.cell 0;have g1:wc.cell? ⟨w1.heap.size,1,none⟩=some (.string ⟨h.target.toArray⟩):=HR2.o.hb.one.cell 1;have g2:wc.cell? ⟨w1.heap.size,2,none⟩=some (.int .i64 (h.minor:Int)):=HR2.o.hb.one.cell 2;have g4:wc.cell? ⟨w1.heap.size,4,none⟩=some (.int .i64 0):=HR2.o.hb.one.cell 4;rw[hlc,hen,htx];clear hlo htx hlc hen HT2 UA;generalize (Ln.of (b.drop q)).size=kI at *;cases hln:Rq.len h with
                   | inl c =>
                     have vC:Rq.of b=(es++[.fail c],false):=by
                      rw[mh.o];show(es++(Rq.goB _ h _).1,(Rq.goB _ h _).2)=_;unfold Rq.goB;rw[hln]
                     have ajH:=H9 vC;have tc:((c:Int) != 0)=true:=by rw[cZ];have:=Rq.X8 hln;omega
                     rw[hln] at sS;unfold Rq.lenVal at sS;simp only at sS;clear mh vC hln;go_wp2_with fail
                     refine sS.o.mono ?_;rintro e w2 ⟨rfl,hb2⟩;have HF:=H9 (mV w w2 ao ca n c es (Aq.o.stay hb2) (by omega));clear hb2 sS;go_wp2_with fail
                     refine HF.o.mono ?_;rintro e w9 ⟨a9,c9,rfl,hW,hB⟩;have HW:=H9 hW;have UC:=H9 hB
                     clear hW hB;go_wp2;go_ret2;exact uw.of ajH.o (by rw[aW,<-Bu.o.len];rfl) rfl HW.o UC.o
                   | inr k =>
                     rw[hln] at sS;unfold Rq.lenVal at sS;simp only at sS;have HKr:=H9 (Rq.xD hln);have ajI:=H9 hln;clear hln;go_wp2_with fail
                     refine sS.o.mono ?_;rintro e w2 ⟨rfl,hb2⟩;have hO2:=HR2.o.hb.one.stay hb2;have k0:w2.cell? ⟨w1.heap.size,0,none⟩=some (.string ⟨h.method.toArray⟩):=hO2.cell 0;have k1:w2.cell? ⟨w1.heap.size,1,none⟩=some (.string ⟨h.target.toArray⟩):=hO2.cell 1;have k2:w2.cell? ⟨w1.heap.size,2,none⟩=some (.int .i64 (h.minor:Int)):=hO2.cell 2;have k3:w2.cell? ⟨w1.heap.size,3,none⟩=some (.slice fo nf gM):=hO2.cell 3;have k4:w2.cell? ⟨w1.heap.size,4,none⟩=some (.int .i64 0):=hO2.cell 4;have k4f:=hO2.fz 4;go_upto_region 31 with fail
                     have hO3:=hO2.put 4 (.int .i64 k);have hRw:gV (w2.setCell ⟨w1.heap.size,4,none⟩ (.int .i64 k)) (w1.heap.size+1) 111 2 fo gM nf (gU (Rq.ny h.fields)):=(HR2.o.hb.row.stay hb2).turns (S:=fun x=>x=w1.heap.size) (ig w1.heap.size [.int .i64 k] 4 w2) (fun a e x=>by have:=(HR2.o.hb.row.block a e).1;omega);have hHl:=HR2.o.hb.len;have Tt:=H9 HR2.o.good;clear hO2 hb2 k0 k1 k2 k3 k4 k4f sS g0 g1 g2 g4 b3 c0 Aq HR2;generalize (w2.setCell ⟨w1.heap.size,4,none⟩ (Value.int .i64 k))=w3 at *;have aaw:=Bu.o.stay hO3.below;obtain⟨xs,hOx,hpx⟩:=aaw.push (.cells #[.int .i64 1,.string ⟨h.method.toArray⟩,.string ⟨h.target.toArray⟩,.int .i64 (h.minor:Int),.slice fo nf gM,.int .i64 k,.slice none 0 0,.string ⟨#[]⟩,.string ⟨#[]⟩,.string ⟨#[]⟩,.slice none 0 0,.int .i64 0] 72);have HOx:=H9 hOx;have HPx:=H9 hpx
                     have HIn:Hid (xZ w3 (fun x=>w.heap.size+1<=x∧gL ao≠some x) (Rq.Ev.head { h with length:=k }).d ⟨fo,gM,none,0,none,0⟩):=⟨⟨by
                      have:=hRw.nQ;rw[hHl,<-Rq.kV] at this;exact this,fun _ a e=>⟨by have h1:=(hRw.block a e).1;have h2:=Bu.o.cell.lt;omega,fun f=>by have h1:=(hRw.block a e).1;have h2:=(Bu.o.want.row a.block f).2;omega⟩⟩,ko.nil _ _,ko.nil _ _⟩
                     have HCe:Hid ((Rq.Ev.head { h with length:=k }).d.cells ⟨fo,gM,none,0,none,0⟩=#[.int .i64 1,.string ⟨h.method.toArray⟩,.string ⟨h.target.toArray⟩,.int .i64 (h.minor:Int),.slice fo nf gM,.int .i64 k,.slice none 0 0,.string ⟨#[]⟩,.string ⟨#[]⟩,.string ⟨#[]⟩,.slice none 0 0,.int .i64 0].toList):=by
                      unfold Hid;simp[Rq.Ev.d,iN.cells,Rq.kV,hHl]
                     have agH:Hid (w.heap.size+1<=w3.heap.size):=aaw.cell.lt;have x0:w3.cell? ⟨w.heap.size,0,none⟩=some (.slice ao n ca):=aaw.cell.cell 0;have k0:w3.cell? ⟨w1.heap.size,0,none⟩=some (.string ⟨h.method.toArray⟩):=hO3.cell 0;have k1:w3.cell? ⟨w1.heap.size,1,none⟩=some (.string ⟨h.target.toArray⟩):=hO3.cell 1;have k2:w3.cell? ⟨w1.heap.size,2,none⟩=some (.int .i64 (h.minor:Int)):=hO3.cell 2;have k3:w3.cell? ⟨w1.heap.size,3,none⟩=some (.slice fo nf gM):=hO3.cell 3;have k4:w3.cell? ⟨w1.heap.size,4,none⟩=some (.int .i64 k):=hO3.cell 4;have HNe:Hid (n=es.length):=Bu.o.len;clear hHl;obtain⟨i0,hi0,hz0,hz1,hz2⟩:=info_parts Ah;have Hi:=H9 hi0;have kK:=H9 hz0;have kH:=H9 hz1;have kL:=H9 hz2
                     clear hi0 hz0 hz1 hz2 hOx hpx aaw hO3 hRw Bu;go_upto_if 128 with (at_builtin;refine gT rfl (.tmp 122) (.tmp 125) 58 rfl (w.heap.size+1) 72 i0 (.agg #[.int .i64 0,.string ⟨#[]⟩,.string ⟨#[]⟩,.int .i64 0,.slice none 0 0,.int .i64 0,.slice none 0 0,.string ⟨#[]⟩,.string ⟨#[]⟩,.string ⟨#[]⟩,.slice none 0 0,.int .i64 0]) 12 184 underlying58 Hi.o kK.o kH.o kL.o rfl (by decide) rfl HOx.o rfl (jo.made _ _ 1 _ _) rfl (xY _ _ _ HCe.o) (by omega) (by omega) (by rw[fZ];have:=agH.o;omega) ?_;intro a3 c3 w4 hO hG hat;have HQ:=H9 (HPx.o a3 c3 w4 (.head { h with length:=k }) _ _ HCe.o HIn.o hO hG hat);have q0:=HQ.o.2.1.cell 0;have q1:=HQ.o.2.1.fz 0;clear hO hG hat)
                     have FM:=H9 HQ.o.2.2.2;have Yg:Hid (aj w (w4.setCell ⟨w.heap.size,0,none⟩ (.slice a3 (n+1) c3))):=HQ.o.2.2.2.cell.below;clear HOx HPx HIn HCe x0 k0 k1 k2 k3 k4 q0 q1 agH HQ;generalize (w4.setCell ⟨w.heap.size,0,none⟩ (Value.slice a3 (n+1) c3))=w5 at *;have hlo:q+kI<=b.length:=by omega
                     have hlb:(b.drop (q+kI)).length=b.length-(q+kI):=bV;clear hlb;obtain⟨j0,hj0,hy0,hy1,hy2⟩:=info_parts jO;have Hj:=H9 hj0;have M0:=H9 hy0;have M4:=H9 hy1;have M5:=H9 hy2
                     clear hj0 hy0 hy1 hy2;go_cut [6,10,15,16] from 18 to 187 (fun v6 v10 v15 v16 wd=>∃(p3:Nat) (body:av) (bo:ak) (bc:Nat) (ov:Bool) (c nb:Nat),v6=.int .i64 p3∧v10=.int .i64 (c:Int)∧v15=.slice bo nb bc∧v16=.bool ov∧nb=body.length∧q+kI<=p3∧(ov=true->c=0->p3<=b.length)∧Yf w w5 b (f'+1) a3 c3 (n+1) (es++[.head { h with length:=k }]) p3 body bo bc ov c wd)
                     case first =>
                      refine MP b bb oo cap w w5 q kI f' n k a3 c3 es h HB.o h9 hlo Yg.o FM.o ajI.o mh.o _ _ _ _ _ _ _ _ _ _ _ _ _ _ _ _ _ _ _ _ _ _ _ _ _ _ _ _ _ _ _ _ _ _ _ _ _ _ _ _ _ _ _ _ _ _ _ _ _ _ _ _ _ _ _ _ _ _ _ _ _ _ _ _ _ _ _ _ _ _ _ _ _ _ _ _ _ _ _ _ _ _ _ _ _ _ _ _ _ _ _ _ _ _ _ _ _ _ _ _ _ _ _ _ _ _ _ _ _ _ _ _ _ _ _ _ _ _ _ _ _ _ _ _ _ _ _ _ _ _ _ _ _ _ _ _ _ _ _ _ _ _ _ _ _ _ _ _ _ _ _ _ _ _ _ _ _ _ _ _ _ _ _ _ _ _ _ _ _ _ _ _ _ _ _ _ _ _ _ _ _ _ ?_;intro w6 y6 y8 y10 y15 y16 aga agb agc agd agf agh agi agj agk agl agm agn agp agq agr ags agt agu agv agw agx y150 y151 y152 y153 agy agz agA y157 y158 y159 y160 agB agC agD agE agF hy;simp only[Exit.then];first
                       | (go_step;go_meet;exact hy)
                       | (apply_assumption;go_meet;exact hy)
                       | (rename_i hK;refine hK _ _ ?_;go_meet;exact hy)
                     case rest =>
                      obtain⟨p3,body,bo,bc,ov,c,nb,rfl,rfl,rfl,rfl,hnb,hp3,ajL,TJ⟩:=hcut;have HR3:=H9 TJ;have x0:wc.cell? ⟨w.heap.size,0,none⟩=some (.slice a3 (n+1) c3):=TJ.rs.cell.cell 0;have x0f:=TJ.rs.cell.fz 0;have WE:=H9 hnb;have agI:Hid (body≠[]->xZ wc (fun x=>w.heap.size+1<=x∧gL a3≠some x) (Rq.Ev.body body).d ⟨none,0,bo,bc,none,0⟩):=fun _=>⟨nE.nil _ _,TJ.bytes.mono (fun x _ e=>⟨by have:=FM.o.cell.lt;omega,fun f=>by have:=(FM.o.want.row x f).2;omega⟩),ko.nil _ _⟩;obtain⟨xs7,hO7,hp7⟩:=TJ.rs.push (.cells #[.int .i64 2,.string ⟨#[]⟩,.string ⟨#[]⟩,.int .i64 0,.slice none 0 0,.int .i64 0,.slice bo nb bc,.string ⟨#[]⟩,.string ⟨#[]⟩,.string ⟨#[]⟩,.slice none 0 0,.int .i64 0] 72);have HO7:=H9 hO7;have TF:=H9 hp7
                      have ajM:Hid (w.heap.size+1<=wc.heap.size):=TJ.rs.cell.lt;clear TJ hnb hO7 hp7 FM;go_upto_if 168 with fail
                      go_cut [166] from 18 to 187 (fun _ wd=>∃a4 c4 n4,n4<=n+2∧wX w a4 c4 n4 (es++[.head { h with length:=k }]++Rq.some_ body) wd)
                      case first =>
                       by_cases hbe:body=[]
                       . have hcz:¬0<nb:=by rw[WE.o,hbe];simp
                         have tb0:decide ((nb:Int) > 0)=false:=aJ (by omega);have HBe:=H9 hbe;clear hbe;go_wp2;go_meet;exact⟨a3,c3,n+1,by omega,by rw[HBe.o];show wX _ _ _ _ (_++[]) _;rw[bW];exact HR3.o.rs⟩
                       . have hcp:0<nb:=by rw[WE.o];exact fE.2 hbe
                         have tb0:decide ((nb:Int) > 0)=true:=aI (by omega);have ajN:=H9 (agI.o hbe);have agJ:Hid ((Rq.Ev.body body).d.cells ⟨none,0,bo,bc,none,0⟩=(#[.int .i64 2,.string ⟨#[]⟩,.string ⟨#[]⟩,.int .i64 0,.slice none 0 0,.int .i64 0,.slice bo nb bc,.string ⟨#[]⟩,.string ⟨#[]⟩,.string ⟨#[]⟩,.slice none 0 0,.int .i64 0]:Array Value).toList):=by
                          unfold Hid;rw[WE.o];rfl
                         have EX:Hid (Rq.some_ body=[.body body]):=by unfold Hid Rq.some_;rw[if_neg hbe]
                         clear hbe;go_wp2_with (at_builtin;refine gT rfl (.tmp 169) (.tmp 172) 58 rfl (w.heap.size+1) 72 i0 (.agg #[.int .i64 0,.string ⟨#[]⟩,.string ⟨#[]⟩,.int .i64 0,.slice none 0 0,.int .i64 0,.slice none 0 0,.string ⟨#[]⟩,.string ⟨#[]⟩,.string ⟨#[]⟩,.slice none 0 0,.int .i64 0]) 12 184 underlying58 Hi.o kK.o kH.o kL.o rfl (by decide) rfl HO7.o rfl (jo.made _ _ 1 _ _) rfl (xY _ _ _ agJ.o) (by omega) (by omega) (by rw[fZ];have:=ajM.o;omega) ?_;intro a4 c4 w8 hO hG hat;have HQ8:=H9 (TF.o a4 c4 w8 (.body body) _ _ agJ.o ajN.o hO hG hat);have q0:=HQ8.o.2.1.cell 0;have q1:=HQ8.o.2.1.fz 0;clear hO hG hat)
                         go_meet;exact⟨a4,c4,n+1+1,by omega,by rw[EX.o];exact HQ8.o.2.2.2⟩
                      case rest =>
                       obtain⟨a4,c4,n4,Ka,hR4⟩:=hcut;have ac9:=H9 HR3.o.PW;have HR4:=H9 hR4;have y0:wc.cell? ⟨w.heap.size,0,none⟩=some (.slice a4 n4 c4):=hR4.cell.cell 0;clear hR4 HR3 agI HO7 TF x0 x0f;generalize es++[Rq.Ev.head { h with length:=k }]++Rq.some_ body=es4 at *;by_cases hc:c=0
                       . subst hc;cases ov with
                         | false =>
                           have MR:Rq.of b=(es4,true):=by rw[ac9.o];simp[Rq.rest]
                           have Yi:=H9 MR;clear MR;go_wp2;go_ret2;exact uw.of Yi.o HR4.o.len rfl HR4.o.want HR4.o.cell.below
                         | true =>
                           have aon:=ajL rfl rfl;have MR:Rq.of b=(es4++[.fin]++(Rq.go (f'+1) (b.drop p3)).1,(Rq.go (f'+1) (b.drop p3)).2):=by rw[ac9.o];simp[Rq.rest]
                           have Yi:=H9 MR;obtain⟨xs9,jU,hp9⟩:=HR4.o.push (.cells #[.int .i64 3,.string ⟨#[]⟩,.string ⟨#[]⟩,.int .i64 0,.slice none 0 0,.int .i64 0,.slice none 0 0,.string ⟨#[]⟩,.string ⟨#[]⟩,.string ⟨#[]⟩,.slice none 0 0,.int .i64 0] 72);have HO9:=H9 jU;have HP9:=H9 hp9
                           have ajP:Hid (w.heap.size+1<=wc.heap.size):=HR4.o.cell.lt;clear MR jU hp9;go_wp2_with (at_builtin;refine gT rfl (.tmp 184) (.tmp 186) 58 rfl (w.heap.size+1) 72 i0 (.agg #[.int .i64 0,.string ⟨#[]⟩,.string ⟨#[]⟩,.int .i64 0,.slice none 0 0,.int .i64 0,.slice none 0 0,.string ⟨#[]⟩,.string ⟨#[]⟩,.string ⟨#[]⟩,.slice none 0 0,.int .i64 0]) 12 184 underlying58 Hi.o kK.o kH.o kL.o rfl (by decide) rfl HO9.o rfl (jo.made _ _ 1 _ _) rfl (xY Rq.Ev.fin.d ⟨none,0,none,0,none,0⟩ _ rfl) (by omega) (by omega) (by rw[fZ];have:=ajP.o;omega) ?_;intro a5 c5 Zr hO hG hat;have ada:=H9 (HP9.o a5 c5 Zr .fin ⟨none,0,none,0,none,0⟩ _ rfl ⟨nE.nil _ _,ko.nil _ _,ko.nil _ _⟩ hO hG hat);have q0:=ada.o.2.1.cell 0;have q1:=ada.o.2.1.fz 0;clear hO hG hat)
                           go_roundw
                           case rel=>exact⟨p3,n4+1,a5,c5,es4++[.fin],f',by omega,rfl,⟨ada.o.2.2.2,by rw[bV];omega,Yi.o,by have:=ajG.o;omega⟩⟩
                           case measure=>simp[intOf];omega
                       . have MR:Rq.of b=(es4++[.fail c],false):=by rw[ac9.o];simp[Rq.rest,hc]
                         have Yi:=H9 MR;have tc:((c:Int) != 0)=true:=by rw[cZ];omega
                         have HF:=H9 (mV w wc a4 c4 n4 c es4 HR4.o (by omega));clear MR hc;go_wp2_with fail
                         refine HF.o.mono ?_;rintro e w9 ⟨a9,c9,rfl,hW,hB⟩;have HW:=H9 hW;have UC:=H9 hB
                         clear hW hB;go_wp2;go_ret2;exact uw.of Yi.o (by rw[aW,<-HR4.o.len];rfl) rfl HW.o UC.o
                 . have ttx:((⟨(Ln.of (b.drop q)).text.toArray⟩:ay).toList==[])=false:=by rw[aS,Lib.toList_data];exact htx
                   by_cases h16:h.fields.length=16
                   . rw[Rq.Uw hlc hen htx h16] at mh;have t16:((nf:Int)==16)=true:=by rw[aT];have:=HR2.o.hb.len;omega
                     rw[hlc,hen];have HF:=H9 (mV w wc ao ca n 8 es Aq.o (by omega));clear htx hlc hen h16 HT2 UA;generalize (Ln.of (b.drop q)).size=kI at *;generalize (⟨(Ln.of (b.drop q)).text.toArray⟩:ay)=tb2 at *;go_wp2_with fail
                     refine HF.o.mono ?_;rintro e w9 ⟨a9,c9,rfl,hW,hB⟩;have HW:=H9 hW;have UC:=H9 hB
                     clear hW hB;go_wp2;go_ret2;exact uw.of mh.o (by rw[aW,<-Bu.o.len];rfl) rfl HW.o UC.o
                   . have t16:((nf:Int)==16)=false:=by rw[aS];have:=HR2.o.hb.len;omega
                     have oW:=H9 (fun W=>Cw ⟨(Ln.of (b.drop q)).text.toArray⟩ W (by show(Ln.of (b.drop q)).text.toArray.size<=_;rw[bM];have:=HT2.o;omega));have hdat:(⟨(Ln.of (b.drop q)).text.toArray⟩:ay).data.toList=(Ln.of (b.drop q)).text:=rfl;rw[hdat] at oW;unfold Fd.val at oW;by_cases hfc:(Fd.of (Ln.of (b.drop q)).text).code=0
                     . rw[Rq.Ux hlc hen htx h16 hfc,UA.o] at mh;have Tt:=H9 (HR2.o.good.more _ HT2.o h16);rw[hlc,hen];rw[hfc] at oW;clear htx hlc hen h16 HT2 UA hdat hfc;generalize (Ln.of (b.drop q)).size=kI at *;generalize (Fd.of (Ln.of (b.drop q)).text)=fd at *;generalize (⟨(Ln.of (b.drop q)).text.toArray⟩:ay)=tb2 at *;go_wp2_with fail
                       refine(oW.o _).mono ?_;rintro e w2 ⟨rfl,hb2⟩;have amo:nf<=16:=by have h1:=HR2.o.hb.len;have h2:=HR2.o.good.many;omega
                       have jq:aj wc ((w2.alloc (.cells #[.string ⟨fd.name.toArray⟩,.string ⟨fd.value.toArray⟩] 111)).alloc (.cells #[.string ⟨fd.name.toArray⟩,.string ⟨fd.value.toArray⟩] 111)):=then_ (then_ hb2 ((fJ _ _).alloc (aM _) _)) ((fJ _ _).alloc (aM _) _);have oH:=H9 jq;have b3':(w2.alloc (.cells #[.string ⟨fd.name.toArray⟩,.string ⟨fd.value.toArray⟩] 111)).cell? ⟨w1.heap.size,3,none⟩=some (.slice fo nf gM):=((HR2.o.hb.one.stay hb2).stay ((fJ _ _).alloc (aM _) _)).cell 3;have nX:=H9 ((HR2.o.hb.row.stay hb2).stay ((fJ _ _).alloc (aM _) (.cells #[.string ⟨fd.name.toArray⟩,.string ⟨fd.value.toArray⟩] 111)));have Zx:Hid (w1.heap.size+1<=w2.heap.size):=(HR2.o.hb.one.stay hb2).lt;obtain⟨i1,hi1,hw0,hw1,hw2⟩:=info_parts rU;have Hi1:=H9 hi1;have Hw0:=H9 hw0;have Hw1:=H9 hw1;have Hw2:=H9 hw2
                       clear hi1 hw0 hw1 hw2 hb2 jq b3 oW c0;go_wp2_with (at_builtin;refine gT rfl (.tmp 103) (.tmp 105) 66 rfl (w1.heap.size+1) 111 i1 (.agg #[.string ⟨#[]⟩,.string ⟨#[]⟩]) 2 32 underlying66 Hi1.o Hw0.o Hw1.o Hw2.o rfl (by decide) rfl (nX.o.alloc _) rfl (jo.aao _ _ 1 _ _ (by simp)) rfl (fun u hu=>by simp at hu;rcases hu with rfl | rfl <;> rfl) (by omega) (by omega) (by rw[fZ,fZ];have:=Zx.o;omega) ?_;intro a4 c4 w4 hO4 hG4 ZU;have HM:=H9 (HR2.o.hb.more oH.o hO4 hG4);have m3:=HM.o.1.cell 3;have m3f:=HM.o.1.fz 3;clear hO4 hG4 ZU)
                       go_roundw
                       case rel=>exact⟨q+kI,f3,nf+1,_,a4,c4,by omega,by omega,by go_num,⟨HM.o.2,by rw[bV];omega,by rw[Rq.PU];exact mh.o,Tt.o⟩⟩
                       case measure=>simp[intOf];omega
                     . rw[Rq.Yc hlc hen htx h16 hfc] at mh;have tfc:(((Fd.of (Ln.of (b.drop q)).text).code:Int) != 0)=true:=by rw[cZ];omega
                       rw[hlc,hen];clear htx hlc hen h16 HT2 UA hdat hfc;generalize (Ln.of (b.drop q)).size=kI at *;generalize (Fd.of (Ln.of (b.drop q)).text)=fd at *;generalize (⟨(Ln.of (b.drop q)).text.toArray⟩:ay)=tb2 at *;go_wp2_with fail
                       refine(oW.o _).mono ?_;rintro e w2 ⟨rfl,hb2⟩;have HF:=H9 (fun ob=>mV w (w2.alloc ob) ao ca n fd.code es ((Aq.o.stay hb2).stay ((fJ _ _).alloc (aM _) _)) (by omega));clear hb2 oW;go_wp2_with fail
                       refine(HF.o _).mono ?_;rintro e w9 ⟨a9,c9,rfl,hW,hB⟩;have HW:=H9 hW;have UC:=H9 hB
                       clear hW hB;go_wp2;go_ret2;exact uw.of mh.o (by rw[aW,<-Bu.o.len];rfl) rfl HW.o UC.o
               . have hen':(Ln.of (b.drop q)).ended=false:=by simpa using hen
                 rw[Rq.Uv hlc hen'] at mh;rw[hlc,hen'];clear hen hen' hlc HT2;generalize (Ln.of (b.drop q)).size=kI at *;generalize (⟨(Ln.of (b.drop q)).text.toArray⟩:ay)=tb2 at *;go_wp2;go_ret2;have vC:Rq.of b=(es,true):=by rw[mh.o,Rq.goH,bW]
                 exact uw.of vC Aq.o.len rfl Aq.o.want Aq.o.cell.below
             . rw[Rq.Uu hlc] at mh;have tlc:(((Ln.of (b.drop q)).code:Int) != 0)=true:=by rw[cZ];omega
               generalize Ln.of (b.drop q)=L at *;obtain⟨t2,kI,en2,lc2⟩:=L;simp only at *;generalize (⟨t2.toArray⟩:ay)=tb2 at *;have HF:=H9 (mV w wc ao ca n lc2 es Aq.o (by omega));clear hlc;go_wp2_with fail
               refine HF.o.mono ?_;rintro e w9 ⟨a9,c9,rfl,hW,hB⟩;have HW:=H9 hW;have UC:=H9 hB
               clear hW hB;go_wp2;go_ret2;exact uw.of mh.o (by rw[aW,<-Bu.o.len];rfl) rfl HW.o UC.o
     . have hen':(Ln.of (b.drop p)).ended=false:=by simpa using hen
       rw[Rq.go_open hlc hen'] at mh;rw[hlc,hen'];have tb:decide (b.drop p≠[])=decide (p<b.length):=by
        rw[decide_eq_decide];constructor
        . intro h;have:=fE.2 h;rw[bV] at this;omega
        . intro h e;have:=bE List.length e;rw[bV] at this;simp at this;omega
       have HTb:=H9 tb;clear hen hen' hlc HT2 tb;generalize (Ln.of (b.drop p)).size=sz at *;generalize (⟨(Ln.of (b.drop p)).text.toArray⟩:ay)=tb at *;go_wp2;go_ret2;have vC:Rq.of b=(es,decide (p<b.length)):=by rw[mh.o,bW,HTb.o]
       exact uw.of vC HR.o.rs.len rfl HR.o.rs.want HR.o.rs.cell.below
   . rw[Rq.aap hlc] at mh;have tlc:(((Ln.of (b.drop p)).code:Int) != 0)=true:=by rw[cZ];omega
     generalize Ln.of (b.drop p)=L at *;obtain⟨t,sz,en,lc⟩:=L;simp only at *;generalize (⟨t.toArray⟩:ay)=tb at *;have HF:=H9 (mV w wc ao ca n lc es HR.o.rs (by omega));clear hlc;go_wp2_with fail
     refine HF.o.mono ?_;rintro e w1 ⟨a2,c2,rfl,hW,hB⟩;have HW:=H9 hW;have UC:=H9 hB
     clear hW hB;go_wp2;go_ret2;exact uw.of mh.o (by rw[aW,<-HR.o.rs.len];rfl) rfl HW.o UC.o
theorem J5 (b:av)(ab:ak)(cap:Nat)(w:World)(hb:iH w ab cap b)(h9:b.length<=20000):
 Calls prog 19 #[.slice ab b.length cap] w fun e w'=>∃a2 c2,e=.returned (.tuple #[.slice a2 (Rq.of b).1.length c2,.bool (Rq.of b).2])∧FU w' a2 c2 ((Rq.of b).1.map Rq.Ev.d)∧aj w w':=by
 by_cases h0:0<b.length
 . obtain⟨bb,oo,rfl,_⟩:=hb.lit h0;refine(Gr b bb oo cap w hb h9).mono ?_;rintro e w' ⟨a2,c2,he,hw,hB⟩;exact⟨a2,c2,he,hw.abu,hB⟩
 . obtain rfl:b=[]:=dw (by omega);exact Gq ab cap w hb
end Go.Proofs.YtjmndjmhjleabaaGreatDoor