import Derived.Test.YtmbghcpcbdjfoaaGreatDoorPk32
open Go.Value renaming int->I,string->V,slice->Z
open Go.IntKind renaming i64->J
open Go.Obj renaming cells->K
open Option renaming none->U,some->M
open Bool renaming false->F
set_option maxHeartbeats 6000000
set_option maxRecDepth 100000
open Go.Proofs.Tryz
namespace Go.Proofs.YtmbghcpcbdjfoaaGreatDoor
open Go.RowKit
theorem LS (b:ae)(bb oo cap:Nat)(w:World)(hb:ay w (M ⟨bb,oo,U⟩) cap b)(h9:b.length<=20000)(hCk:Ci b):
 Calls prog 19 #[Z (M ⟨bb,oo,U⟩) b.length cap] w fun e w'=>Cq w b e w':=by
 have HB:=aa hb;have HLn:=aa (fun k n c T hk hn hc ha W s=>S3 hb h9 k n c T hk hn hc ha W s);have hcap:=hb.1;clear hb;go_enter func19,ntmps19;go_wp2;go_loopw [6] (fun va wr=>∃(p n:Nat) (T:ai) (ca:Nat) (D:List aS) (f:Nat),p<=b.length∧va=I J p∧UN w b p T ca n D f wr) (fun va _=>b.length+1-(intOf va).toNat)
 case atStart=>exact⟨0,0,U,0,[],b.length,ax _,rfl,⟨mu.f w,by simp,by simp[et],ax _⟩⟩
 case round =>
  obtain⟨p,n,T,ca,D,f,hp,rfl,hR⟩:=hrel;have HR:=aa hR;have hn6:n<=60000:=by have:=hR.c;omega
  have c0:wr.cell? ⟨w.heap.size,0,U⟩=M (Z T n ca):=hR.a.a.a 0;clear hR;go_upto_region 4 with fail
  go_cut [7,8,9,10] from 18 to 187 (fun v7 v8 v9 v10 wd=>v7=V ⟨(aw (b.drop p)).b.toArray⟩∧v8=I J ((aw (b.drop p)).a:Int)∧v9=.bool (aw (b.drop p)).d∧v10=I J ((aw (b.drop p)).c:Int)∧wd=wr)
  case first =>
   by_cases hac:cap=p
   . have HL1:=aa (fun W s=>HLn.o p 0 0 (M ⟨bb,oo,U⟩) hp (by omega) (by omega) (fun e=>absurd hac e) W s);have e1:b.length-p=0:=by omega
     have e2:cap-p=0:=by omega
     generalize aw (b.drop p)=L at *;subst hac;go_wp2_with fail;refine(HL1.o _ HR.o.a.a.below).mono ?_;rintro e m ⟨rfl,hw⟩;subst hw;go_wp2;go_meet;exact⟨rfl,rfl,rfl,rfl,rfl⟩
   . have HL1:=aa (fun W s=>HLn.o p (b.length-p) (cap-p) (M ⟨bb,oo+p,U⟩) hp rfl rfl (fun _=>rfl) W s);generalize aw (b.drop p)=L at *;go_wp2_with fail;refine(HL1.o _ HR.o.a.a.below).mono ?_;rintro e m ⟨rfl,hw⟩;subst hw;go_wp2;go_meet;exact⟨rfl,rfl,rfl,rfl,rfl⟩
  case rest =>
   obtain⟨rfl,rfl,rfl,rfl,hw⟩:=hcut;subst hw;have hle:=vm (b.drop p);have htl:=MD (b.drop p);rw[bV] at hle htl;have z:=aa HR.o.e;by_cases g:(aw (b.drop p)).c=0
   . have v:=aa (Fh (b.drop p));by_cases j:(aw (b.drop p)).d=true
     . have hsz:0<(aw (b.drop p)).a:=by
        rcases ww (aw (b.drop p)).a with h | h
        . have:=C7 h;rw[j] at this;cases this.2
        . exact h
       have Pb:Hid (∀k,(b.drop p).drop k=b.drop (p+k)):=fun k=>oD;have hfu:=HR.o.d;rw[bV] at hfu;obtain⟨f',rfl⟩:∃f',f=f'+1:=⟨f-1,by omega⟩;by_cases l:(aw (b.drop p)).b=[]
       . rw[PQ g j l,Pb.o] at z;rw[g,j,l];generalize (aw (b.drop p)).a=sz at *;clear g j l htl v Pb;go_wp2;go_roundw
         case rel=>exact⟨p+sz,n,T,ca,D,f',by omega,by go_num,⟨HR.o.a,by rw[bV];omega,z.o,by have:=HR.o.c;omega⟩⟩
         case measure=>simp[intOf];omega
       . have ttx:((⟨(aw (b.drop p)).b.toArray⟩:ag).toList==[])=F:=by rw[aO,Lib.toList_data];exact l
         have zV:=aa (fun W=>LQ ⟨(aw (b.drop p)).b.toArray⟩ W (by show(aw (b.drop p)).b.toArray.size<=_;rw[cN];have:=v.o;omega));have B:(⟨(aw (b.drop p)).b.toArray⟩:ag).data.toList=(aw (b.drop p)).b:=rfl;rw[B] at zV;cases H:dw (aw (b.drop p)).b with
         | inl c =>
           rw[PV g j l H] at z;rw[H] at zV;unfold BE at zV;simp only at zV;have hcz:c≠0:=Pw H;have tc:((c:Int) != 0)=true:=by rw[cW];omega
           rw[g,j];clear H B l g j htl v Pb hcz;generalize (aw (b.drop p)).a=sz at *;generalize (⟨(aw (b.drop p)).b.toArray⟩:ag)=tb at *;go_wp2_with fail;refine(zV.o _).mono ?_;rintro e m ⟨rfl,hb1⟩;have Cu:=aa (HR.o.a.d hb1);have HF:=aa (fun ob=>rL w (m.alloc ob) T ca n c D (Cu.o.d ((aq _ _).alloc (ak _) _)) (by omega));clear hb1 zV c0;go_wp2_with fail;refine(HF.o _).mono ?_;rintro e N ⟨a2,c2,rfl,s,G⟩;have HW:=aa s;have Gw:=aa G
           clear s G;go_wp2;go_ret2;exact Cq.a z.o (by rw[aF,<-HR.o.a.b];rfl) rfl HW.o Gw.o
         | inr h =>
           rw[PM g j l H,Pb.o] at z;rw[H] at zV;unfold BE at zV;simp only at zV;have hgd:=GB v.o H;have hf0:=Po H;rw[g,j];have HDs:Hid (p+(aw (b.drop p)).a<=b.length∧0<(aw (b.drop p)).a):=⟨by omega,hsz⟩;clear H B l g j htl v Pb;generalize (aw (b.drop p)).a=sz at *;generalize (⟨(aw (b.drop p)).b.toArray⟩:ag)=tb at *;go_wp2_with fail;refine(zV.o _).mono ?_;rintro e m ⟨rfl,hb1⟩;have Cu:=aa (HR.o.a.d hb1);have amS:=aa HR.o.c;have i:Hid (IC w m b (p+sz) T ca n D (f'+1) (f'+1) h U 0 0 (m.alloc (K #[V ⟨h.c.toArray⟩,V ⟨h.b.toArray⟩,I J (h.e:Int),Z U 0 0,I J 0] 82))):=⟨⟨gx.j _ _ _,(by rw[hf0];exact aG.f _ _ _ _),by rw[hf0];rfl⟩,by rw[bV];omega,by rw[hf0];exact z.o,hgd.1⟩;clear hb1 zV c0 z hgd hf0 HR ttx;go_wp2;go_loopw [6] (fun va wr=>∃(q f2 nf:Nat) (hd:cf) (fo:ai) (gG:Nat),p+sz<=q∧q<=b.length∧va=I J q∧IC w m b q T ca n D (f'+1) f2 hd fo gG nf wr) (fun va _=>b.length+1-(intOf va).toNat)
           case atStart=>exact⟨p+sz,f'+1,0,h,U,0,ak _,HDs.o.1,by go_num,i.o⟩
           case round =>
            clear i;obtain⟨q,f2,nf,hd,fo,gG,hpq,hq,rfl,hR2⟩:=hrel;have i:=aa hR2;clear hR2;generalize hd=h at *;have c0:wr.cell? ⟨w.heap.size,0,U⟩=M (Z T n ca):=(Cu.o.d i.o.a.a.below).a.a 0;have b3:wr.cell? ⟨m.heap.size,3,U⟩=M (Z fo nf gG):=i.o.a.a.a 3;have Lr:Hid (mu w T ca n D wr):=Cu.o.d i.o.a.a.below;go_upto_region 14 with fail
            go_cut [7,8,9,10] from 58 to 107 (fun v7 v8 v9 v10 wd=>v7=V ⟨(aw (b.drop q)).b.toArray⟩∧v8=I J ((aw (b.drop q)).a:Int)∧v9=.bool (aw (b.drop q)).d∧v10=I J ((aw (b.drop q)).c:Int)∧wd=wr)
            case first =>
             by_cases hac:cap=q
             . have HL1:=aa (fun W s=>HLn.o q 0 0 (M ⟨bb,oo,U⟩) hq (by omega) (by omega) (fun e=>absurd hac e) W s);have e1:b.length-q=0:=by omega
               have e2:cap-q=0:=by omega
               generalize aw (b.drop q)=L at *;subst hac;go_wp2_with fail;refine(HL1.o _ Lr.o.a.below).mono ?_;rintro e N ⟨rfl,hw⟩;subst hw;go_wp2;go_meet;exact⟨rfl,rfl,rfl,rfl,rfl⟩
             . have HL1:=aa (fun W s=>HLn.o q (b.length-q) (cap-q) (M ⟨bb,oo+q,U⟩) hq rfl rfl (fun _=>rfl) W s);generalize aw (b.drop q)=L at *;go_wp2_with fail;refine(HL1.o _ Lr.o.a.below).mono ?_;rintro e N ⟨rfl,hw⟩;subst hw;go_wp2;go_meet;exact⟨rfl,rfl,rfl,rfl,rfl⟩
            case rest =>
             obtain⟨rfl,rfl,rfl,rfl,hw⟩:=hcut;subst hw;have hle2:=vm (b.drop q);rw[bV] at hle2;have z:=aa i.o.e;have v:=aa (Fh (b.drop q));by_cases g:(aw (b.drop q)).c=0
             . by_cases j:(aw (b.drop q)).d=true
               . have hsz2:0<(aw (b.drop q)).a:=by
                  rcases ww (aw (b.drop q)).a with h | h
                  . have:=C7 h;rw[j] at this;cases this.2
                  . exact h
                 have Pb:Hid (∀k,(b.drop q).drop k=b.drop (q+k)):=fun k=>oD;have hfu2:=i.o.d;rw[bV] at hfu2;obtain⟨f3,rfl⟩:∃f3,f2=f3+1:=⟨f2-1,by omega⟩;by_cases l:(aw (b.drop q)).b=[]
                 . rw[PN g j l,Pb.o] at z;have hlo:=Mf ⟨h.c.toArray⟩ ⟨h.b.toArray⟩ h.e 0 (bL h.a) fo gG wc (by have:=i.o.a.c.a;rw[i.o.a.b] at this;rw[om];exact this) (by rw[om];exact i.o.c.a) (fun x hx=>by
                    unfold bL at hx;obtain⟨y,hy,rfl⟩:=jT.1 hx;have:=i.o.c.b y hy;refine⟨?_,?_⟩
                    . show y.1.toArray.size<=_;rw[cN];omega
                    . show y.2.toArray.size<=_;rw[cN];omega)
                   rw[BG,om,<-i.o.a.b] at hlo;have sD:Hid (Calls prog 54 #[.agg #[V ⟨h.c.toArray⟩,V ⟨h.b.toArray⟩,I J (h.e:Int),Z fo nf gG,I J 0]] wc fun e w'=>e=.returned (op (gC h))∧Below wc.heap.size wc w'):=hlo;have g0:wc.cell? ⟨m.heap.size,0,U⟩=M (V ⟨h.c.toArray⟩):=i.o.a.a.a 0;have g1:wc.cell? ⟨m.heap.size,1,U⟩=M (V ⟨h.b.toArray⟩):=i.o.a.a.a 1;have g2:wc.cell? ⟨m.heap.size,2,U⟩=M (I J (h.e:Int)):=i.o.a.a.a 2;have g4:wc.cell? ⟨m.heap.size,4,U⟩=M (I J 0):=i.o.a.a.a 4;rw[g,j,l];clear hlo l g j v Pb;generalize (aw (b.drop q)).a=lJ at *;cases hln:gC h with
                   | inl c =>
                     have yN:et b=(D++[.fail c],F):=by
                      rw[z.o];show(D++(pc _ h _).1,(pc _ h _).2)=_;unfold pc;rw[hln]
                     have amT:=aa yN;have tc:((c:Int) != 0)=true:=by rw[cW];have:=PP hln;omega
                     rw[hln] at sD;unfold op at sD;simp only at sD;clear z yN hln;go_wp2_with fail;refine sD.o.mono ?_;rintro e N ⟨rfl,r⟩;have HF:=aa (rL w N T ca n c D (Lr.o.d r) (by omega));clear r sD;go_wp2_with fail;refine HF.o.mono ?_;rintro e w9 ⟨a9,c9,rfl,s,G⟩;have HW:=aa s;have Gw:=aa G
                     clear s G;go_wp2;go_ret2;exact Cq.a amT.o (by rw[aF,<-Cu.o.b];rfl) rfl HW.o Gw.o
                   | inr k =>
                     rw[hln] at sD;unfold op at sD;simp only at sD;have HKr:=aa (yf hln);have amU:=aa hln;clear hln;go_wp2_with fail;refine sD.o.mono ?_;rintro e N ⟨rfl,r⟩;have hO2:=i.o.a.a.d r;have k0:N.cell? ⟨m.heap.size,0,U⟩=M (V ⟨h.c.toArray⟩):=hO2.a 0;have k1:N.cell? ⟨m.heap.size,1,U⟩=M (V ⟨h.b.toArray⟩):=hO2.a 1;have k2:N.cell? ⟨m.heap.size,2,U⟩=M (I J (h.e:Int)):=hO2.a 2;have k3:N.cell? ⟨m.heap.size,3,U⟩=M (Z fo nf gG):=hO2.a 3;have k4:N.cell? ⟨m.heap.size,4,U⟩=M (I J 0):=hO2.a 4;have k4f:=hO2.f 4;go_upto_region 31 with fail
                     have hO3:=hO2.q 4 (I J k);have hRw:aG (N.setCell ⟨m.heap.size,4,U⟩ (I J k)) (m.heap.size+1) 128 2 fo gG nf (aI (bL h.a)):=(i.o.a.c.r r).e (S:=fun x=>x=m.heap.size) (gX m.heap.size [I J k] 4 N) (fun a e x=>by have:=(i.o.a.c.d a e).1;omega);have hHl:=i.o.a.b;have Wm:=aa i.o.c;clear hO2 r k0 k1 k2 k3 k4 k4f sD g0 g1 g2 g4 b3 c0 Lr i;generalize (N.setCell ⟨m.heap.size,4,U⟩ (Value.int J k))=w3 at *;have adl:=Cu.o.d hO3.below;obtain⟨xs,hOx,hpx⟩:=adl.e (K #[I J 1,V ⟨h.c.toArray⟩,V ⟨h.b.toArray⟩,I J (h.e:Int),Z fo nf gG,I J k,Z U 0 0,V ⟨#[]⟩,V ⟨#[]⟩,V ⟨#[]⟩,Z U 0 0,I J 0] 98);have HOx:=aa hOx;have HPx:=aa hpx
                     have HIn:Hid (eI w3 (fun x=>w.heap.size+1<=x∧au T≠M x) (aS.head { h with d:=k }).d ⟨fo,gG,U,0,U,0⟩):=⟨⟨by
                      have:=hRw.a;rw[hHl,<-om] at this;exact this,fun _ a e=>⟨by have h1:=(hRw.d a e).1;have h2:=Cu.o.a.e;omega,fun f=>by have h1:=(hRw.d a e).1;have h2:=(Cu.o.c.a a.block f).2;omega⟩⟩,dO.e _ _,dO.e _ _⟩
                     have HCe:Hid ((aS.head { h with d:=k }).d.d ⟨fo,gG,U,0,U,0⟩=#[I J 1,V ⟨h.c.toArray⟩,V ⟨h.b.toArray⟩,I J (h.e:Int),Z fo nf gG,I J k,Z U 0 0,V ⟨#[]⟩,V ⟨#[]⟩,V ⟨#[]⟩,Z U 0 0,I J 0].toList):=by
                      unfold Hid;simp[aS.d,az.d,om,hHl]
                     have aju:Hid (w.heap.size+1<=w3.heap.size):=adl.a.e;have x0:w3.cell? ⟨w.heap.size,0,U⟩=M (Z T n ca):=adl.a.a 0;have k0:w3.cell? ⟨m.heap.size,0,U⟩=M (V ⟨h.c.toArray⟩):=hO3.a 0;have k1:w3.cell? ⟨m.heap.size,1,U⟩=M (V ⟨h.b.toArray⟩):=hO3.a 1;have k2:w3.cell? ⟨m.heap.size,2,U⟩=M (I J (h.e:Int)):=hO3.a 2;have k3:w3.cell? ⟨m.heap.size,3,U⟩=M (Z fo nf gG):=hO3.a 3;have k4:w3.cell? ⟨m.heap.size,4,U⟩=M (I J k):=hO3.a 4;have XE:Hid (n=D.length):=Cu.o.b;clear hHl;obtain⟨i0,hi0,hz0,hz1,hz2⟩:=info_parts uB;have Hi:=aa hi0;have kT:=aa hz0;have kL:=aa hz1;have kU:=aa hz2
                     clear hi0 hz0 hz1 hz2 hOx hpx adl hO3 hRw Cu;go_upto_if 128 with (at_builtin;refine fE rfl (.tmp 122) (.tmp 125) 58 rfl (w.heap.size+1) 98 i0 (.agg #[I J 0,V ⟨#[]⟩,V ⟨#[]⟩,I J 0,Z U 0 0,I J 0,Z U 0 0,V ⟨#[]⟩,V ⟨#[]⟩,V ⟨#[]⟩,Z U 0 0,I J 0]) 12 184 underlying58 Hi.o kT.o kL.o kU.o rfl (by decide) rfl HOx.o rfl (bx.d _ _ 1 _ _) rfl (zo _ _ _ HCe.o) (by omega) (by omega) (by rw[ch];have:=aju.o;omega) ?_;intro a3 c3 w4 hO hG hat;have HQ:=aa (HPx.o a3 c3 w4 (.head { h with d:=k }) _ _ HCe.o HIn.o hO hG hat);have q0:=HQ.o.2.1.a 0;have q1:=HQ.o.2.1.f 0;clear hO hG hat)
                     have GK:=aa HQ.o.2.2.2;have amX:Hid (Below w.heap.size w (w4.setCell ⟨w.heap.size,0,U⟩ (Z a3 (n+1) c3))):=HQ.o.2.2.2.a.below;clear HOx HPx HIn HCe x0 k0 k1 k2 k3 k4 q0 q1 aju HQ;generalize (w4.setCell ⟨w.heap.size,0,U⟩ (Value.slice a3 (n+1) c3))=w5 at *;have hlo:q+lJ<=b.length:=by omega
                     have hlb:(b.drop (q+lJ)).length=b.length-(q+lJ):=bV;clear hlb;obtain⟨j0,hj0,hy0,hy1,hy2⟩:=info_parts il;have Hj:=aa hj0;have Jj:=aa hy0;have Jk:=aa hy1;have Jl:=aa hy2
                     clear hj0 hy0 hy1 hy2;go_cut [6,10,15,16] from 18 to 187 (fun v6 v10 v15 v16 wd=>∃(p3:Nat) (body:ae) (bo:ai) (bc:Nat) (ov:Bool) (c nb:Nat),v6=I J p3∧v10=I J (c:Int)∧v15=Z bo nb bc∧v16=.bool ov∧nb=body.length∧q+lJ<=p3∧(ov=true->c=0->p3<=b.length)∧B8 w w5 b (f'+1) a3 c3 (n+1) (D++[.head { h with d:=k }]) p3 body bo bc ov c wd)
                     case first =>
                      refine Nf b bb oo cap w w5 q lJ f' n k a3 c3 D h HB.o h9 hCk hlo amX.o GK.o amU.o z.o _ _ _ _ _ _ _ _ _ _ _ _ _ _ _ _ _ _ _ _ _ _ _ _ _ _ _ _ _ _ _ _ _ _ _ _ _ _ _ _ _ _ _ _ _ _ _ _ _ _ _ _ _ _ _ _ _ _ _ _ _ _ _ _ _ _ _ _ _ _ _ _ _ _ _ _ _ _ _ _ _ _ _ _ _ _ _ _ _ _ _ _ _ _ _ _ _ _ _ _ _ _ _ _ _ _ _ _ _ _ _ _ _ _ _ _ _ _ _ _ _ _ _ _ _ _ _ _ _ _ _ _ _ _ _ _ _ _ _ _ _ _ _ _ _ _ _ _ _ _ _ _ _ _ _ _ _ _ _ _ _ _ _ _ _ _ _ _ _ _ _ _ _ _ _ _ _ _ _ _ _ _ ?_;intro w6 y6 y8 y10 y15 y16 ai0 ai1 ai2 ai3 ai4 ai5 ai6 ai7 ai8 ai9 aja ajb ajc ajd aje ajf ajg ajh aji ajj ajk y150 y151 y152 y153 ajl ajm ajn y157 y158 y159 y160 ajo ajp ajq ajr ajs hy;simp only[Exit.then];first
                       | (go_step;go_meet;exact hy)
                       | (apply_assumption;go_meet;exact hy)
                       | (rename_i hK;refine hK _ _ ?_;go_meet;exact hy)
                     case rest =>
                      obtain⟨p3,body,bo,bc,ov,c,nb,rfl,rfl,rfl,rfl,hnb,hp3,amY,O7⟩:=hcut;have HR3:=aa O7;have x0:wc.cell? ⟨w.heap.size,0,U⟩=M (Z a3 (n+1) c3):=O7.a.a.a 0;have x0f:=O7.a.a.f 0;have XD:=aa hnb;have ajv:Hid (body≠[]->eI wc (fun x=>w.heap.size+1<=x∧au a3≠M x) (aS.body body).d ⟨U,0,bo,bc,U,0⟩):=fun _=>⟨jz.a _ _,O7.d.a (fun x _ e=>⟨by have:=GK.o.a.e;omega,fun f=>by have:=(GK.o.c.a x f).2;omega⟩),dO.e _ _⟩;obtain⟨xs7,hO7,hp7⟩:=O7.a.e (K #[I J 2,V ⟨#[]⟩,V ⟨#[]⟩,I J 0,Z U 0 0,I J 0,Z bo nb bc,V ⟨#[]⟩,V ⟨#[]⟩,V ⟨#[]⟩,Z U 0 0,I J 0] 98);have HO7:=aa hO7;have HP7:=aa hp7
                      have amZ:Hid (w.heap.size+1<=wc.heap.size):=O7.a.a.e;clear O7 hnb hO7 hp7 GK;go_upto_if 168 with fail
                      go_cut [166] from 18 to 187 (fun _ wd=>∃a4 c4 n4,n4<=n+2∧mu w a4 c4 n4 (D++[.head { h with d:=k }]++eu body) wd)
                      case first =>
                       by_cases hbe:body=[]
                       . have hcz:¬0<nb:=by rw[XD.o,hbe];simp
                         have tb0:decide ((nb:Int) > 0)=F:=aW (by omega);have HBe:=aa hbe;clear hbe;go_wp2;go_meet;exact⟨a3,c3,n+1,by omega,by rw[HBe.o];show mu _ _ _ _ (_++[]) _;rw[eN];exact HR3.o.a⟩
                       . have hcp:0<nb:=by rw[XD.o];exact kH.2 hbe
                         have tb0:decide ((nb:Int) > 0)=true:=aV (by omega);have am0:=aa (ajv.o hbe);have ajx:Hid ((aS.body body).d.d ⟨U,0,bo,bc,U,0⟩=(#[I J 2,V ⟨#[]⟩,V ⟨#[]⟩,I J 0,Z U 0 0,I J 0,Z bo nb bc,V ⟨#[]⟩,V ⟨#[]⟩,V ⟨#[]⟩,Z U 0 0,I J 0]:Array Value).toList):=by
                          unfold Hid;rw[XD.o];rfl
                         have F7:Hid (eu body=[.body body]):=by unfold Hid eu;rw[if_neg hbe]
                         clear hbe;go_wp2_with (at_builtin;refine fE rfl (.tmp 169) (.tmp 172) 58 rfl (w.heap.size+1) 98 i0 (.agg #[I J 0,V ⟨#[]⟩,V ⟨#[]⟩,I J 0,Z U 0 0,I J 0,Z U 0 0,V ⟨#[]⟩,V ⟨#[]⟩,V ⟨#[]⟩,Z U 0 0,I J 0]) 12 184 underlying58 Hi.o kT.o kL.o kU.o rfl (by decide) rfl HO7.o rfl (bx.d _ _ 1 _ _) rfl (zo _ _ _ ajx.o) (by omega) (by omega) (by rw[ch];have:=amZ.o;omega) ?_;intro a4 c4 w8 hO hG hat;have HQ8:=aa (HP7.o a4 c4 w8 (.body body) _ _ ajx.o am0.o hO hG hat);have q0:=HQ8.o.2.1.a 0;have q1:=HQ8.o.2.1.f 0;clear hO hG hat)
                         go_meet;exact⟨a4,c4,n+1+1,by omega,by rw[F7.o];exact HQ8.o.2.2.2⟩
                      case rest =>
                       obtain⟨a4,c4,n4,O8,hR4⟩:=hcut;have afG:=aa HR3.o.e;have HR4:=aa hR4;have y0:wc.cell? ⟨w.heap.size,0,U⟩=M (Z a4 n4 c4):=hR4.a.a 0;clear hR4 HR3 ajv HO7 HP7 x0 x0f;generalize D++[aS.head { h with d:=k }]++eu body=es4 at *;by_cases hc:c=0
                       . subst hc;cases ov with
                         | false =>
                           have OJ:et b=(es4,true):=by rw[afG.o];simp[iE]
                           have aa8:=aa OJ;clear OJ;go_wp2;go_ret2;exact Cq.a aa8.o HR4.o.b rfl HR4.o.c HR4.o.a.below
                         | true =>
                           have asg:=amY rfl rfl;have OJ:et b=(es4++[.fin]++(fO (f'+1) (b.drop p3)).1,(fO (f'+1) (b.drop p3)).2):=by rw[afG.o];simp[iE]
                           have aa8:=aa OJ;obtain⟨xs9,jY,hp9⟩:=HR4.o.e (K #[I J 3,V ⟨#[]⟩,V ⟨#[]⟩,I J 0,Z U 0 0,I J 0,Z U 0 0,V ⟨#[]⟩,V ⟨#[]⟩,V ⟨#[]⟩,Z U 0 0,I J 0] 98);have HO9:=aa jY;have HP9:=aa hp9
                           have am2:Hid (w.heap.size+1<=wc.heap.size):=HR4.o.a.e;clear OJ jY hp9;go_wp2_with (at_builtin;refine fE rfl (.tmp 184) (.tmp 186) 58 rfl (w.heap.size+1) 98 i0 (.agg #[I J 0,V ⟨#[]⟩,V ⟨#[]⟩,I J 0,Z U 0 0,I J 0,Z U 0 0,V ⟨#[]⟩,V ⟨#[]⟩,V ⟨#[]⟩,Z U 0 0,I J 0]) 12 184 underlying58 Hi.o kT.o kL.o kU.o rfl (by decide) rfl HO9.o rfl (bx.d _ _ 1 _ _) rfl (zo aS.fin.d ⟨U,0,U,0,U,0⟩ _ rfl) (by omega) (by omega) (by rw[ch];have:=am2.o;omega) ?_;intro a5 c5 GX hO hG hat;have afH:=aa (HP9.o a5 c5 GX .fin ⟨U,0,U,0,U,0⟩ _ rfl ⟨jz.a _ _,dO.e _ _,dO.e _ _⟩ hO hG hat);have q0:=afH.o.2.1.a 0;have q1:=afH.o.2.1.f 0;clear hO hG hat)
                           go_roundw
                           case rel=>exact⟨p3,n4+1,a5,c5,es4++[.fin],f',by omega,rfl,⟨afH.o.2.2.2,by rw[bV];omega,aa8.o,by have:=amS.o;omega⟩⟩
                           case measure=>simp[intOf];omega
                       . have OJ:et b=(es4++[.fail c],F):=by rw[afG.o];simp[iE,hc]
                         have aa8:=aa OJ;have tc:((c:Int) != 0)=true:=by rw[cW];omega
                         have HF:=aa (rL w wc a4 c4 n4 c es4 HR4.o (by omega));clear OJ hc;go_wp2_with fail;refine HF.o.mono ?_;rintro e w9 ⟨a9,c9,rfl,s,G⟩;have HW:=aa s;have Gw:=aa G
                         clear s G;go_wp2;go_ret2;exact Cq.a aa8.o (by rw[aF,<-HR4.o.b];rfl) rfl HW.o Gw.o
                 . have ttx:((⟨(aw (b.drop q)).b.toArray⟩:ag).toList==[])=F:=by rw[aO,Lib.toList_data];exact l
                   by_cases h16:h.a.length=16
                   . rw[PG g j l h16] at z;have t16:((nf:Int)==16)=true:=by rw[cM];have:=i.o.a.b;omega
                     rw[g,j];have HF:=aa (rL w wc T ca n 8 D Lr.o (by omega));clear l g j h16 v Pb;generalize (aw (b.drop q)).a=lJ at *;generalize (⟨(aw (b.drop q)).b.toArray⟩:ag)=tb2 at *;go_wp2_with fail;refine HF.o.mono ?_;rintro e w9 ⟨a9,c9,rfl,s,G⟩;have HW:=aa s;have Gw:=aa G
                     clear s G;go_wp2;go_ret2;exact Cq.a z.o (by rw[aF,<-Cu.o.b];rfl) rfl HW.o Gw.o
                   . have t16:((nf:Int)==16)=F:=by rw[aO];have:=i.o.a.b;omega
                     have Ef:=aa (fun W=>Nd ⟨(aw (b.drop q)).b.toArray⟩ W (by show(aw (b.drop q)).b.toArray.size<=_;rw[cN];have:=v.o;omega));have B:(⟨(aw (b.drop q)).b.toArray⟩:ag).data.toList=(aw (b.drop q)).b:=rfl;rw[B] at Ef;unfold qT at Ef;by_cases hfc:(aP (aw (b.drop q)).b).a=0
                     . rw[PH g j l h16 hfc,Pb.o] at z;have Wm:=aa (i.o.c.f _ v.o h16);rw[g,j];rw[hfc] at Ef;clear l g j h16 v Pb B hfc;generalize (aw (b.drop q)).a=lJ at *;generalize (aP (aw (b.drop q)).b)=fd at *;generalize (⟨(aw (b.drop q)).b.toArray⟩:ag)=tb2 at *;go_wp2_with fail;refine(Ef.o _).mono ?_;rintro e N ⟨rfl,r⟩;have apG:nf<=16:=by have h1:=i.o.a.b;have h2:=i.o.c.a;omega
                       have jm:Below wc.heap.size wc ((N.alloc (K #[V ⟨fd.b.toArray⟩,V ⟨fd.c.toArray⟩] 128)).alloc (K #[V ⟨fd.b.toArray⟩,V ⟨fd.c.toArray⟩] 128)):=ar (ar r ((aq _ _).alloc (ak _) _)) ((aq _ _).alloc (ak _) _);have Hf:=aa jm;have b3':(N.alloc (K #[V ⟨fd.b.toArray⟩,V ⟨fd.c.toArray⟩] 128)).cell? ⟨m.heap.size,3,U⟩=M (Z fo nf gG):=((i.o.a.a.d r).d ((aq _ _).alloc (ak _) _)).a 3;have mX:=aa ((i.o.a.c.r r).r ((aq _ _).alloc (ak _) (K #[V ⟨fd.b.toArray⟩,V ⟨fd.c.toArray⟩] 128)));have Zw:Hid (m.heap.size+1<=N.heap.size):=(i.o.a.a.d r).e;obtain⟨i1,hi1,hw0,hw1,hw2⟩:=info_parts pv;have Hi1:=aa hi1;have Hw0:=aa hw0;have Hw1:=aa hw1;have Hw2:=aa hw2
                       clear hi1 hw0 hw1 hw2 r jm b3 Ef c0;go_wp2_with (at_builtin;refine fE rfl (.tmp 103) (.tmp 105) 80 rfl (m.heap.size+1) 128 i1 (.agg #[V ⟨#[]⟩,V ⟨#[]⟩]) 2 32 underlying80 Hi1.o Hw0.o Hw1.o Hw2.o rfl (by decide) rfl (mX.o.q _) rfl (bx.B _ _ 1 _ _ (by simp)) rfl (fun u hu=>by simp at hu;rcases hu with rfl | rfl <;> rfl) (by omega) (by omega) (by rw[ch,ch];have:=Zw.o;omega) ?_;intro a4 c4 w4 hO4 hG4 NQ;have HM:=aa (i.o.a.d Hf.o hO4 hG4);have m3:=HM.o.1.a 3;have m3f:=HM.o.1.f 3;clear hO4 hG4 NQ)
                       go_roundw
                       case rel=>exact⟨q+lJ,f3,nf+1,_,a4,c4,by omega,by omega,by go_num,⟨HM.o.2,by rw[bV];omega,by rw[Px];exact z.o,Wm.o⟩⟩
                       case measure=>simp[intOf];omega
                     . rw[PO g j l h16 hfc] at z;have tfc:(((aP (aw (b.drop q)).b).a:Int) != 0)=true:=by rw[cW];omega
                       rw[g,j];clear l g j h16 v Pb B hfc;generalize (aw (b.drop q)).a=lJ at *;generalize (aP (aw (b.drop q)).b)=fd at *;generalize (⟨(aw (b.drop q)).b.toArray⟩:ag)=tb2 at *;go_wp2_with fail;refine(Ef.o _).mono ?_;rintro e N ⟨rfl,r⟩;have HF:=aa (fun ob=>rL w (N.alloc ob) T ca n fd.a D ((Lr.o.d r).d ((aq _ _).alloc (ak _) _)) (by omega));clear r Ef;go_wp2_with fail;refine(HF.o _).mono ?_;rintro e w9 ⟨a9,c9,rfl,s,G⟩;have HW:=aa s;have Gw:=aa G
                       clear s G;go_wp2;go_ret2;exact Cq.a z.o (by rw[aF,<-Cu.o.b];rfl) rfl HW.o Gw.o
               . have C:(aw (b.drop q)).d=F:=by simpa using j
                 rw[PF g C] at z;rw[g,C];clear j C g v;generalize (aw (b.drop q)).a=lJ at *;generalize (⟨(aw (b.drop q)).b.toArray⟩:ag)=tb2 at *;go_wp2;go_ret2;have yN:et b=(D,true):=by rw[z.o,sW,eN]
                 exact Cq.a yN Lr.o.b rfl Lr.o.c Lr.o.a.below
             . rw[PE g] at z;have tlc:(((aw (b.drop q)).c:Int) != 0)=true:=by rw[cW];omega
               generalize aw (b.drop q)=L at *;obtain⟨t2,lJ,en2,lc2⟩:=L;simp only at *;generalize (⟨t2.toArray⟩:ag)=tb2 at *;have HF:=aa (rL w wc T ca n lc2 D Lr.o (by omega));clear g;go_wp2_with fail;refine HF.o.mono ?_;rintro e w9 ⟨a9,c9,rfl,s,G⟩;have HW:=aa s;have Gw:=aa G
               clear s G;go_wp2;go_ret2;exact Cq.a z.o (by rw[aF,<-Cu.o.b];rfl) rfl HW.o Gw.o
     . have C:(aw (b.drop p)).d=F:=by simpa using j
       rw[PX g C] at z;rw[g,C];have tb:decide (b.drop p≠[])=decide (p<b.length):=by
        rw[decide_eq_decide];constructor
        . intro h;have:=kH.2 h;rw[bV] at this;omega
        . intro h e;have:=mg List.length e;rw[bV] at this;simp at this;omega
       have HTb:=aa tb;clear j C g v tb;generalize (aw (b.drop p)).a=sz at *;generalize (⟨(aw (b.drop p)).b.toArray⟩:ag)=tb at *;go_wp2;go_ret2;have yN:et b=(D,decide (p<b.length)):=by rw[z.o,eN,HTb.o]
       exact Cq.a yN HR.o.a.b rfl HR.o.a.c HR.o.a.a.below
   . rw[PT g] at z;have tlc:(((aw (b.drop p)).c:Int) != 0)=true:=by rw[cW];omega
     generalize aw (b.drop p)=L at *;obtain⟨t,sz,en,lc⟩:=L;simp only at *;generalize (⟨t.toArray⟩:ag)=tb at *;have HF:=aa (rL w wc T ca n lc D HR.o.a (by omega));clear g;go_wp2_with fail;refine HF.o.mono ?_;rintro e m ⟨a2,c2,rfl,s,G⟩;have HW:=aa s;have Gw:=aa G
     clear s G;go_wp2;go_ret2;exact Cq.a z.o (by rw[aF,<-HR.o.a.b];rfl) rfl HW.o Gw.o
theorem Ng (b:ae)(c:ai)(cap:Nat)(w:World)(f:ay w c cap b)(i:b.length<=20000)(g:Ci b):
 Calls prog 19 #[Z c b.length cap] w fun e w'=>∃a2 a,e=.returned (.tuple #[Z a2 (et b).1.length a,.bool (et b).2])∧sJ w' a2 a ((et b).1.map aS.d)∧Below w.heap.size w w':=by
 by_cases j:0<b.length
 . obtain⟨k,l,rfl,_⟩:=f.j j;refine(LS b k l cap w f i g).mono ?_;rintro e w' ⟨a2,a,m,n,o⟩;exact⟨a2,a,m,n.d,o⟩
 . obtain rfl:b=[]:=gW (by omega);exact LR c cap w f
