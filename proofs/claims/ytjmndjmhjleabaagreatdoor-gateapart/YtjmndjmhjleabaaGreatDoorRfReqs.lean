/- The document's own answer for requests, walked: Requests. -/
import Derived.Test.YtjmndjmhjleabaaGreatDoorPk43
open Go.Value renaming int->I,string->V,slice->Z
open Go.IntKind renaming i64->J
open Go.Obj renaming cells->K
open Option renaming none->U,some->M
open Bool renaming false->F
set_option maxHeartbeats 6000000
set_option maxRecDepth 100000
open Go.Proofs.Tryz
namespace Go.Proofs.YtjmndjmhjleabaaGreatDoor
open Go.RowKit
theorem Gq (b:au)(bb oo cap:Nat)(w:World)(hb:iG w (M ⟨bb,oo,U⟩) cap b)(h9:b.length<=20000):
 Calls prog 19 #[Z (M ⟨bb,oo,U⟩) b.length cap] w fun e w'=>uq w b e w':=by
 have HB:=H9 hb;have Fv:=H9 (fun k n c O hk hn hc ha W s=>MN hb h9 k n c O hk hn hc ha W s);have hcap:=hb.1;clear hb;go_enter func19,ntmps19;go_wp2;go_loopw [6] (fun va wr=>∃(p n:Nat) (O:aj) (ca:Nat) (D:List Rq.Ev) (f:Nat),p<=b.length∧va=I J p∧afw w b p O ca n D f wr) (fun va _=>b.length+1-(intOf va).toNat)
 case atStart=>exact⟨0,0,U,0,[],b.length,ay _,rfl,⟨wW.start w,by simp,by simp[Rq.of],ay _⟩⟩
 case round =>
  obtain⟨p,n,O,ca,D,f,hp,rfl,hR⟩:=hrel;have HR:=H9 hR;have hn6:n<=60000:=by have:=hR.few;omega
  have c0:wr.cell? ⟨w.heap.size,0,U⟩=M (Z O n ca):=hR.rs.cell.cell 0;clear hR;go_upto_region 4 with fail
  go_cut [7,8,9,10] from 18 to 187 (fun v7 v8 v9 v10 wd=>v7=V ⟨(Ln.of (b.drop p)).text.toArray⟩∧v8=I J ((Ln.of (b.drop p)).size:Int)∧v9=.bool (Ln.of (b.drop p)).ended∧v10=I J ((Ln.of (b.drop p)).code:Int)∧wd=wr)
  case first =>
   by_cases hac:cap=p
   . have vK:=H9 (fun W s=>Fv.o p 0 0 (M ⟨bb,oo,U⟩) hp (by omega) (by omega) (fun e=>absurd hac e) W s);have e1:b.length-p=0:=by omega
     have e2:cap-p=0:=by omega
     generalize Ln.of (b.drop p)=L at *;subst hac;go_wp2_with fail
     refine(vK.o _ HR.o.rs.cell.below).mono ?_;rintro e m ⟨rfl,hw⟩;subst hw;go_wp2;go_meet;exact⟨rfl,rfl,rfl,rfl,rfl⟩
   . have vK:=H9 (fun W s=>Fv.o p (b.length-p) (cap-p) (M ⟨bb,oo+p,U⟩) hp rfl rfl (fun _=>rfl) W s);generalize Ln.of (b.drop p)=L at *;go_wp2_with fail
     refine(vK.o _ HR.o.rs.cell.below).mono ?_;rintro e m ⟨rfl,hw⟩;subst hw;go_wp2;go_meet;exact⟨rfl,rfl,rfl,rfl,rfl⟩
  case rest =>
   obtain⟨rfl,rfl,rfl,rfl,hw⟩:=hcut;subst hw;have hle:=Ln.of_le (b.drop p);have htl:=Ln.uO (b.drop p);rw[bU] at hle htl;have z:=H9 HR.o.PV;by_cases g:(Ln.of (b.drop p)).code=0
   . have v:=H9 (Ln.Cu (b.drop p));by_cases j:(Ln.of (b.drop p)).ended=true
     . have hsz:0<(Ln.of (b.drop p)).size:=by
        rcases fE (Ln.of (b.drop p)).size with h | h
        . have:=Ck.oW h;rw[j] at this;cases this.2
        . exact h
       have Uz:Hid (∀k,(b.drop p).drop k=b.drop (p+k)):=fun k=>eX;have hfu:=HR.o.f_;rw[bU] at hfu;obtain⟨f',rfl⟩:∃f',f=f'+1:=⟨f-1,by omega⟩;by_cases l:(Ln.of (b.drop p)).text=[]
       . rw[Rq.X8 g j l,Uz.o] at z;rw[g,j,l];generalize (Ln.of (b.drop p)).size=sz at *;clear g j l htl v Uz;go_wp2;go_roundw
         case rel=>exact⟨p+sz,n,O,ca,D,f',by omega,by go_num,⟨HR.o.rs,by rw[bU];omega,z.o,by have:=HR.o.few;omega⟩⟩
         case measure=>simp[intOf];omega
       . have ttx:((⟨(Ln.of (b.drop p)).text.toArray⟩:av).toList==[])=F:=by rw[aR,Lib.toList_data];exact l
         have II:=H9 (fun W=>Gn ⟨(Ln.of (b.drop p)).text.toArray⟩ W (by show(Ln.of (b.drop p)).text.toArray.size<=_;rw[bL];have:=v.o;omega));have B:(⟨(Ln.of (b.drop p)).text.toArray⟩:av).data.toList=(Ln.of (b.drop p)).text:=rfl;rw[B] at II;cases H:Rq.first (Ln.of (b.drop p)).text with
         | inl c =>
           rw[Rq.NH g j l H] at z;rw[H] at II;unfold Rq.FK at II;simp only at II;have hcz:c≠0:=Rq.PO H;have tc:((c:Int) != 0)=true:=by rw[cO];omega
           rw[g,j];clear H B l g j htl v Uz hcz;generalize (Ln.of (b.drop p)).size=sz at *;generalize (⟨(Ln.of (b.drop p)).text.toArray⟩:av)=tb at *;go_wp2_with fail
           refine(II.o _).mono ?_;rintro e m ⟨rfl,hb1⟩;have Bt:=H9 (HR.o.rs.stay hb1);have HF:=H9 (fun ob=>mU w (m.alloc ob) O ca n c D (Bt.o.stay ((fI _ _).alloc (aL _) _)) (by omega));clear hb1 II c0;go_wp2_with fail
           refine(HF.o _).mono ?_;rintro e N ⟨a2,c2,rfl,s,G⟩;have HW:=H9 s;have UA:=H9 G
           clear s G;go_wp2;go_ret2;exact uq.of z.o (by rw[aV,<-HR.o.rs.len];rfl) rfl HW.o UA.o
         | inr h =>
           rw[Rq.X9 g j l H,Uz.o] at z;rw[H] at II;unfold Rq.FK at II;simp only at II;have hgd:=Rq.DN v.o H;have hf0:=Rq.zA H;rw[g,j];have HDs:Hid (p+(Ln.of (b.drop p)).size<=b.length∧0<(Ln.of (b.drop p)).size):=⟨by omega,hsz⟩;clear H B l g j htl v Uz;generalize (Ln.of (b.drop p)).size=sz at *;generalize (⟨(Ln.of (b.drop p)).text.toArray⟩:av)=tb at *;go_wp2_with fail
           refine(II.o _).mono ?_;rintro e m ⟨rfl,hb1⟩;have Bt:=H9 (HR.o.rs.stay hb1);have ajF:=H9 HR.o.few;have i:Hid (abp w m b (p+sz) O ca n D (f'+1) (f'+1) h U 0 0 (m.alloc (K #[V ⟨h.method.toArray⟩,V ⟨h.target.toArray⟩,I J (h.minor:Int),Z U 0 0,I J 0] 68))):=⟨⟨jI.made _ _ _,(by rw[hf0];exact gU.nil _ _ _ _),by rw[hf0];rfl⟩,by rw[bU];omega,by rw[hf0];exact z.o,hgd.1⟩;clear hb1 II c0 z hgd hf0 HR ttx;go_wp2;go_loopw [6] (fun va wr=>∃(q f2 nf:Nat) (hd:Rq.Hd) (fo:aj) (gL:Nat),p+sz<=q∧q<=b.length∧va=I J q∧abp w m b q O ca n D (f'+1) f2 hd fo gL nf wr) (fun va _=>b.length+1-(intOf va).toNat)
           case atStart=>exact⟨p+sz,f'+1,0,h,U,0,aL _,HDs.o.1,by go_num,i.o⟩
           case round =>
            clear i;obtain⟨q,f2,nf,hd,fo,gL,hpq,hq,rfl,hR2⟩:=hrel;have i:=H9 hR2;clear hR2;generalize hd=h at *;have c0:wr.cell? ⟨w.heap.size,0,U⟩=M (Z O n ca):=(Bt.o.stay i.o.hb.one.below).cell.cell 0;have b3:wr.cell? ⟨m.heap.size,3,U⟩=M (Z fo nf gL):=i.o.hb.one.cell 3;have Ap:Hid (wW w O ca n D wr):=Bt.o.stay i.o.hb.one.below;go_upto_region 14 with fail
            go_cut [7,8,9,10] from 58 to 107 (fun v7 v8 v9 v10 wd=>v7=V ⟨(Ln.of (b.drop q)).text.toArray⟩∧v8=I J ((Ln.of (b.drop q)).size:Int)∧v9=.bool (Ln.of (b.drop q)).ended∧v10=I J ((Ln.of (b.drop q)).code:Int)∧wd=wr)
            case first =>
             by_cases hac:cap=q
             . have vK:=H9 (fun W s=>Fv.o q 0 0 (M ⟨bb,oo,U⟩) hq (by omega) (by omega) (fun e=>absurd hac e) W s);have e1:b.length-q=0:=by omega
               have e2:cap-q=0:=by omega
               generalize Ln.of (b.drop q)=L at *;subst hac;go_wp2_with fail
               refine(vK.o _ Ap.o.cell.below).mono ?_;rintro e N ⟨rfl,hw⟩;subst hw;go_wp2;go_meet;exact⟨rfl,rfl,rfl,rfl,rfl⟩
             . have vK:=H9 (fun W s=>Fv.o q (b.length-q) (cap-q) (M ⟨bb,oo+q,U⟩) hq rfl rfl (fun _=>rfl) W s);generalize Ln.of (b.drop q)=L at *;go_wp2_with fail
               refine(vK.o _ Ap.o.cell.below).mono ?_;rintro e N ⟨rfl,hw⟩;subst hw;go_wp2;go_meet;exact⟨rfl,rfl,rfl,rfl,rfl⟩
            case rest =>
             obtain⟨rfl,rfl,rfl,rfl,hw⟩:=hcut;subst hw;have hle2:=Ln.of_le (b.drop q);rw[bU] at hle2;have z:=H9 i.o.PV;have v:=H9 (Ln.Cu (b.drop q));by_cases g:(Ln.of (b.drop q)).code=0
             . by_cases j:(Ln.of (b.drop q)).ended=true
               . have hsz2:0<(Ln.of (b.drop q)).size:=by
                  rcases fE (Ln.of (b.drop q)).size with h | h
                  . have:=Ck.oW h;rw[j] at this;cases this.2
                  . exact h
                 have Uz:Hid (∀k,(b.drop q).drop k=b.drop (q+k)):=fun k=>eX;have hfu2:=i.o.f_;rw[bU] at hfu2;obtain⟨f3,rfl⟩:∃f3,f2=f3+1:=⟨f2-1,by omega⟩;by_cases l:(Ln.of (b.drop q)).text=[]
                 . rw[Rq.Ya g j l,Uz.o] at z;have hlo:=J3 ⟨h.method.toArray⟩ ⟨h.target.toArray⟩ h.minor 0 (Rq.nu h.fields) fo gL wc (by have:=i.o.hb.row.nP;rw[i.o.hb.len] at this;rw[Rq.kU];exact this) (by rw[Rq.kU];exact i.o.good.many) (fun x hx=>by
                    unfold Rq.nu at hx;obtain⟨y,hy,rfl⟩:=aM.1 hx;have:=i.o.good.fields y hy;refine⟨?_,?_⟩
                    . show y.1.toArray.size<=_;rw[bL];omega
                    . show y.2.toArray.size<=_;rw[bL];omega)
                   rw[Rq.Jl,Rq.kU,<-i.o.hb.len] at hlo;have sQ:Hid (Calls prog 45 #[.agg #[V ⟨h.method.toArray⟩,V ⟨h.target.toArray⟩,I J (h.minor:Int),Z fo nf gL,I J 0]] wc fun e w'=>e=.returned (Rq.lenVal (Rq.len h))∧Below wc.heap.size wc w'):=hlo;have g0:wc.cell? ⟨m.heap.size,0,U⟩=M (V ⟨h.method.toArray⟩):=i.o.hb.one.cell 0;have g1:wc.cell? ⟨m.heap.size,1,U⟩=M (V ⟨h.target.toArray⟩):=i.o.hb.one.cell 1;have g2:wc.cell? ⟨m.heap.size,2,U⟩=M (I J (h.minor:Int)):=i.o.hb.one.cell 2;have g4:wc.cell? ⟨m.heap.size,4,U⟩=M (I J 0):=i.o.hb.one.cell 4;rw[g,j,l];clear hlo l g j v Uz;generalize (Ln.of (b.drop q)).size=kH at *;cases P:Rq.len h with
                   | inl c =>
                     have vB:Rq.of b=(D++[.fail c],F):=by
                      rw[z.o];show(D++(Rq.goB _ h _).1,(Rq.goB _ h _).2)=_;unfold Rq.goB;rw[P]
                     have ajG:=H9 vB;have tc:((c:Int) != 0)=true:=by rw[cO];have:=Rq.X7 P;omega
                     rw[P] at sQ;unfold Rq.lenVal at sQ;simp only at sQ;clear z vB P;go_wp2_with fail
                     refine sQ.o.mono ?_;rintro e N ⟨rfl,r⟩;have HF:=H9 (mU w N O ca n c D (Ap.o.stay r) (by omega));clear r sQ;go_wp2_with fail
                     refine HF.o.mono ?_;rintro e w9 ⟨a9,c9,rfl,s,G⟩;have HW:=H9 s;have UA:=H9 G
                     clear s G;go_wp2;go_ret2;exact uq.of ajG.o (by rw[aV,<-Bt.o.len];rfl) rfl HW.o UA.o
                   | inr k =>
                     rw[P] at sQ;unfold Rq.lenVal at sQ;simp only at sQ;have HKr:=H9 (Rq.xC P);have ajH:=H9 P;clear P;go_wp2_with fail
                     refine sQ.o.mono ?_;rintro e N ⟨rfl,r⟩;have T:=i.o.hb.one.stay r;have k0:N.cell? ⟨m.heap.size,0,U⟩=M (V ⟨h.method.toArray⟩):=T.cell 0;have k1:N.cell? ⟨m.heap.size,1,U⟩=M (V ⟨h.target.toArray⟩):=T.cell 1;have k2:N.cell? ⟨m.heap.size,2,U⟩=M (I J (h.minor:Int)):=T.cell 2;have k3:N.cell? ⟨m.heap.size,3,U⟩=M (Z fo nf gL):=T.cell 3;have k4:N.cell? ⟨m.heap.size,4,U⟩=M (I J 0):=T.cell 4;have k4f:=T.fz 4;go_upto_region 31 with fail
                     have hO3:=T.put 4 (I J k);have hRw:gU (N.setCell ⟨m.heap.size,4,U⟩ (I J k)) (m.heap.size+1) 111 2 fo gL nf (gT (Rq.nu h.fields)):=(i.o.hb.row.stay r).turns (S:=fun x=>x=m.heap.size) (gZ m.heap.size [I J k] 4 N) (fun a e x=>by have:=(i.o.hb.row.block a e).1;omega);have hHl:=i.o.hb.len;have Tq:=H9 i.o.good;clear T r k0 k1 k2 k3 k4 k4f sQ g0 g1 g2 g4 b3 c0 Ap i;generalize (N.setCell ⟨m.heap.size,4,U⟩ (Value.int J k))=w3 at *;have aav:=Bt.o.stay hO3.below;obtain⟨xs,hOx,hpx⟩:=aav.push (K #[I J 1,V ⟨h.method.toArray⟩,V ⟨h.target.toArray⟩,I J (h.minor:Int),Z fo nf gL,I J k,Z U 0 0,V ⟨#[]⟩,V ⟨#[]⟩,V ⟨#[]⟩,Z U 0 0,I J 0] 72);have HOx:=H9 hOx;have HPx:=H9 hpx
                     have HIn:Hid (xY w3 (fun x=>w.heap.size+1<=x∧gK O≠M x) (Rq.Ev.head { h with length:=k }).d ⟨fo,gL,U,0,U,0⟩):=⟨⟨by
                      have:=hRw.nP;rw[hHl,<-Rq.kU] at this;exact this,fun _ a e=>⟨by have h1:=(hRw.block a e).1;have h2:=Bt.o.cell.lt;omega,fun f=>by have h1:=(hRw.block a e).1;have h2:=(Bt.o.want.row a.block f).2;omega⟩⟩,jZ.nil _ _,jZ.nil _ _⟩
                     have HCe:Hid ((Rq.Ev.head { h with length:=k }).d.cells ⟨fo,gL,U,0,U,0⟩=#[I J 1,V ⟨h.method.toArray⟩,V ⟨h.target.toArray⟩,I J (h.minor:Int),Z fo nf gL,I J k,Z U 0 0,V ⟨#[]⟩,V ⟨#[]⟩,V ⟨#[]⟩,Z U 0 0,I J 0].toList):=by
                      unfold Hid;simp[Rq.Ev.d,iM.cells,Rq.kU,hHl]
                     have agG:Hid (w.heap.size+1<=w3.heap.size):=aav.cell.lt;have x0:w3.cell? ⟨w.heap.size,0,U⟩=M (Z O n ca):=aav.cell.cell 0;have k0:w3.cell? ⟨m.heap.size,0,U⟩=M (V ⟨h.method.toArray⟩):=hO3.cell 0;have k1:w3.cell? ⟨m.heap.size,1,U⟩=M (V ⟨h.target.toArray⟩):=hO3.cell 1;have k2:w3.cell? ⟨m.heap.size,2,U⟩=M (I J (h.minor:Int)):=hO3.cell 2;have k3:w3.cell? ⟨m.heap.size,3,U⟩=M (Z fo nf gL):=hO3.cell 3;have k4:w3.cell? ⟨m.heap.size,4,U⟩=M (I J k):=hO3.cell 4;have HNe:Hid (n=D.length):=Bt.o.len;clear hHl;obtain⟨i0,hi0,hz0,hz1,hz2⟩:=info_parts Ag;have Hi:=H9 hi0;have kJ:=H9 hz0;have kG:=H9 hz1;have kK:=H9 hz2
                     clear hi0 hz0 hz1 hz2 hOx hpx aav hO3 hRw Bt;go_upto_if 128 with (at_builtin;refine gQ rfl (.tmp 122) (.tmp 125) 58 rfl (w.heap.size+1) 72 i0 (.agg #[I J 0,V ⟨#[]⟩,V ⟨#[]⟩,I J 0,Z U 0 0,I J 0,Z U 0 0,V ⟨#[]⟩,V ⟨#[]⟩,V ⟨#[]⟩,Z U 0 0,I J 0]) 12 184 underlying58 Hi.o kJ.o kG.o kK.o rfl (by decide) rfl HOx.o rfl (jm.made _ _ 1 _ _) rfl (xX _ _ _ HCe.o) (by omega) (by omega) (by rw[fV];have:=agG.o;omega) ?_;intro a3 c3 w4 hO hG hat;have HQ:=H9 (HPx.o a3 c3 w4 (.head { h with length:=k }) _ _ HCe.o HIn.o hO hG hat);have q0:=HQ.o.2.1.cell 0;have q1:=HQ.o.2.1.fz 0;clear hO hG hat)
                     have FL:=H9 HQ.o.2.2.2;have Yf:Hid (Below w.heap.size w (w4.setCell ⟨w.heap.size,0,U⟩ (Z a3 (n+1) c3))):=HQ.o.2.2.2.cell.below;clear HOx HPx HIn HCe x0 k0 k1 k2 k3 k4 q0 q1 agG HQ;generalize (w4.setCell ⟨w.heap.size,0,U⟩ (Value.slice a3 (n+1) c3))=w5 at *;have hlo:q+kH<=b.length:=by omega
                     have hlb:(b.drop (q+kH)).length=b.length-(q+kH):=bU;clear hlb;obtain⟨j0,hj0,hy0,hy1,hy2⟩:=info_parts jN;have Hj:=H9 hj0;have MZ:=H9 hy0;have M0:=H9 hy1;have M4:=H9 hy2
                     clear hj0 hy0 hy1 hy2;go_cut [6,10,15,16] from 18 to 187 (fun v6 v10 v15 v16 wd=>∃(p3:Nat) (body:au) (bo:aj) (bc:Nat) (ov:Bool) (c nb:Nat),v6=I J p3∧v10=I J (c:Int)∧v15=Z bo nb bc∧v16=.bool ov∧nb=body.length∧q+kH<=p3∧(ov=true->c=0->p3<=b.length)∧Ye w w5 b (f'+1) a3 c3 (n+1) (D++[.head { h with length:=k }]) p3 body bo bc ov c wd)
                     case first =>
                      refine MO b bb oo cap w w5 q kH f' n k a3 c3 D h HB.o h9 hlo Yf.o FL.o ajH.o z.o _ _ _ _ _ _ _ _ _ _ _ _ _ _ _ _ _ _ _ _ _ _ _ _ _ _ _ _ _ _ _ _ _ _ _ _ _ _ _ _ _ _ _ _ _ _ _ _ _ _ _ _ _ _ _ _ _ _ _ _ _ _ _ _ _ _ _ _ _ _ _ _ _ _ _ _ _ _ _ _ _ _ _ _ _ _ _ _ _ _ _ _ _ _ _ _ _ _ _ _ _ _ _ _ _ _ _ _ _ _ _ _ _ _ _ _ _ _ _ _ _ _ _ _ _ _ _ _ _ _ _ _ _ _ _ _ _ _ _ _ _ _ _ _ _ _ _ _ _ _ _ _ _ _ _ _ _ _ _ _ _ _ _ _ _ _ _ _ _ _ _ _ _ _ _ _ _ _ _ _ _ _ ?_;intro w6 y6 y8 y10 y15 y16 af9 aga agb agc agd agf agh agi agj agk agl agm agn agp agq agr ags agt agu agv agw y150 y151 y152 y153 agx agy agz y157 y158 y159 y160 agA agB agC agD agE hy;simp only[Exit.then];first
                       | (go_step;go_meet;exact hy)
                       | (apply_assumption;go_meet;exact hy)
                       | (rename_i hK;refine hK _ _ ?_;go_meet;exact hy)
                     case rest =>
                      obtain⟨p3,body,bo,bc,ov,c,nb,rfl,rfl,rfl,rfl,hnb,hp3,ajK,TI⟩:=hcut;have HR3:=H9 TI;have x0:wc.cell? ⟨w.heap.size,0,U⟩=M (Z a3 (n+1) c3):=TI.rs.cell.cell 0;have x0f:=TI.rs.cell.fz 0;have WC:=H9 hnb;have agH:Hid (body≠[]->xY wc (fun x=>w.heap.size+1<=x∧gK a3≠M x) (Rq.Ev.body body).d ⟨U,0,bo,bc,U,0⟩):=fun _=>⟨nD.nil _ _,TI.bytes.mono (fun x _ e=>⟨by have:=FL.o.cell.lt;omega,fun f=>by have:=(FL.o.want.row x f).2;omega⟩),jZ.nil _ _⟩;obtain⟨xs7,hO7,hp7⟩:=TI.rs.push (K #[I J 2,V ⟨#[]⟩,V ⟨#[]⟩,I J 0,Z U 0 0,I J 0,Z bo nb bc,V ⟨#[]⟩,V ⟨#[]⟩,V ⟨#[]⟩,Z U 0 0,I J 0] 72);have HO7:=H9 hO7;have TD:=H9 hp7
                      have ajL:Hid (w.heap.size+1<=wc.heap.size):=TI.rs.cell.lt;clear TI hnb hO7 hp7 FL;go_upto_if 168 with fail
                      go_cut [166] from 18 to 187 (fun _ wd=>∃a4 c4 n4,n4<=n+2∧wW w a4 c4 n4 (D++[.head { h with length:=k }]++Rq.some_ body) wd)
                      case first =>
                       by_cases hbe:body=[]
                       . have hcz:¬0<nb:=by rw[WC.o,hbe];simp
                         have tb0:decide ((nb:Int) > 0)=F:=aI (by omega);have HBe:=H9 hbe;clear hbe;go_wp2;go_meet;exact⟨a3,c3,n+1,by omega,by rw[HBe.o];show wW _ _ _ _ (_++[]) _;rw[bV];exact HR3.o.rs⟩
                       . have hcp:0<nb:=by rw[WC.o];exact fD.2 hbe
                         have tb0:decide ((nb:Int) > 0)=true:=aH (by omega);have ajM:=H9 (agH.o hbe);have agI:Hid ((Rq.Ev.body body).d.cells ⟨U,0,bo,bc,U,0⟩=(#[I J 2,V ⟨#[]⟩,V ⟨#[]⟩,I J 0,Z U 0 0,I J 0,Z bo nb bc,V ⟨#[]⟩,V ⟨#[]⟩,V ⟨#[]⟩,Z U 0 0,I J 0]:Array Value).toList):=by
                          unfold Hid;rw[WC.o];rfl
                         have EW:Hid (Rq.some_ body=[.body body]):=by unfold Hid Rq.some_;rw[if_neg hbe]
                         clear hbe;go_wp2_with (at_builtin;refine gQ rfl (.tmp 169) (.tmp 172) 58 rfl (w.heap.size+1) 72 i0 (.agg #[I J 0,V ⟨#[]⟩,V ⟨#[]⟩,I J 0,Z U 0 0,I J 0,Z U 0 0,V ⟨#[]⟩,V ⟨#[]⟩,V ⟨#[]⟩,Z U 0 0,I J 0]) 12 184 underlying58 Hi.o kJ.o kG.o kK.o rfl (by decide) rfl HO7.o rfl (jm.made _ _ 1 _ _) rfl (xX _ _ _ agI.o) (by omega) (by omega) (by rw[fV];have:=ajL.o;omega) ?_;intro a4 c4 w8 hO hG hat;have HQ8:=H9 (TD.o a4 c4 w8 (.body body) _ _ agI.o ajM.o hO hG hat);have q0:=HQ8.o.2.1.cell 0;have q1:=HQ8.o.2.1.fz 0;clear hO hG hat)
                         go_meet;exact⟨a4,c4,n+1+1,by omega,by rw[EW.o];exact HQ8.o.2.2.2⟩
                      case rest =>
                       obtain⟨a4,c4,n4,J9,hR4⟩:=hcut;have ac8:=H9 HR3.o.PV;have HR4:=H9 hR4;have y0:wc.cell? ⟨w.heap.size,0,U⟩=M (Z a4 n4 c4):=hR4.cell.cell 0;clear hR4 HR3 agH HO7 TD x0 x0f;generalize D++[Rq.Ev.head { h with length:=k }]++Rq.some_ body=es4 at *;by_cases hc:c=0
                       . subst hc;cases ov with
                         | false =>
                           have MQ:Rq.of b=(es4,true):=by rw[ac8.o];simp[Rq.rest]
                           have Yh:=H9 MQ;clear MQ;go_wp2;go_ret2;exact uq.of Yh.o HR4.o.len rfl HR4.o.want HR4.o.cell.below
                         | true =>
                           have aom:=ajK rfl rfl;have MQ:Rq.of b=(es4++[.fin]++(Rq.go (f'+1) (b.drop p3)).1,(Rq.go (f'+1) (b.drop p3)).2):=by rw[ac8.o];simp[Rq.rest]
                           have Yh:=H9 MQ;obtain⟨xs9,jT,hp9⟩:=HR4.o.push (K #[I J 3,V ⟨#[]⟩,V ⟨#[]⟩,I J 0,Z U 0 0,I J 0,Z U 0 0,V ⟨#[]⟩,V ⟨#[]⟩,V ⟨#[]⟩,Z U 0 0,I J 0] 72);have HO9:=H9 jT;have HP9:=H9 hp9
                           have ajO:Hid (w.heap.size+1<=wc.heap.size):=HR4.o.cell.lt;clear MQ jT hp9;go_wp2_with (at_builtin;refine gQ rfl (.tmp 184) (.tmp 186) 58 rfl (w.heap.size+1) 72 i0 (.agg #[I J 0,V ⟨#[]⟩,V ⟨#[]⟩,I J 0,Z U 0 0,I J 0,Z U 0 0,V ⟨#[]⟩,V ⟨#[]⟩,V ⟨#[]⟩,Z U 0 0,I J 0]) 12 184 underlying58 Hi.o kJ.o kG.o kK.o rfl (by decide) rfl HO9.o rfl (jm.made _ _ 1 _ _) rfl (xX Rq.Ev.fin.d ⟨U,0,U,0,U,0⟩ _ rfl) (by omega) (by omega) (by rw[fV];have:=ajO.o;omega) ?_;intro a5 c5 Zq hO hG hat;have ac9:=H9 (HP9.o a5 c5 Zq .fin ⟨U,0,U,0,U,0⟩ _ rfl ⟨nD.nil _ _,jZ.nil _ _,jZ.nil _ _⟩ hO hG hat);have q0:=ac9.o.2.1.cell 0;have q1:=ac9.o.2.1.fz 0;clear hO hG hat)
                           go_roundw
                           case rel=>exact⟨p3,n4+1,a5,c5,es4++[.fin],f',by omega,rfl,⟨ac9.o.2.2.2,by rw[bU];omega,Yh.o,by have:=ajF.o;omega⟩⟩
                           case measure=>simp[intOf];omega
                       . have MQ:Rq.of b=(es4++[.fail c],F):=by rw[ac8.o];simp[Rq.rest,hc]
                         have Yh:=H9 MQ;have tc:((c:Int) != 0)=true:=by rw[cO];omega
                         have HF:=H9 (mU w wc a4 c4 n4 c es4 HR4.o (by omega));clear MQ hc;go_wp2_with fail
                         refine HF.o.mono ?_;rintro e w9 ⟨a9,c9,rfl,s,G⟩;have HW:=H9 s;have UA:=H9 G
                         clear s G;go_wp2;go_ret2;exact uq.of Yh.o (by rw[aV,<-HR4.o.len];rfl) rfl HW.o UA.o
                 . have ttx:((⟨(Ln.of (b.drop q)).text.toArray⟩:av).toList==[])=F:=by rw[aR,Lib.toList_data];exact l
                   by_cases h16:h.fields.length=16
                   . rw[Rq.Uv g j l h16] at z;have t16:((nf:Int)==16)=true:=by rw[aS];have:=i.o.hb.len;omega
                     rw[g,j];have HF:=H9 (mU w wc O ca n 8 D Ap.o (by omega));clear l g j h16 v Uz;generalize (Ln.of (b.drop q)).size=kH at *;generalize (⟨(Ln.of (b.drop q)).text.toArray⟩:av)=tb2 at *;go_wp2_with fail
                     refine HF.o.mono ?_;rintro e w9 ⟨a9,c9,rfl,s,G⟩;have HW:=H9 s;have UA:=H9 G
                     clear s G;go_wp2;go_ret2;exact uq.of z.o (by rw[aV,<-Bt.o.len];rfl) rfl HW.o UA.o
                   . have t16:((nf:Int)==16)=F:=by rw[aR];have:=i.o.hb.len;omega
                     have oV:=H9 (fun W=>Cv ⟨(Ln.of (b.drop q)).text.toArray⟩ W (by show(Ln.of (b.drop q)).text.toArray.size<=_;rw[bL];have:=v.o;omega));have B:(⟨(Ln.of (b.drop q)).text.toArray⟩:av).data.toList=(Ln.of (b.drop q)).text:=rfl;rw[B] at oV;unfold Fd.val at oV;by_cases hfc:(Fd.of (Ln.of (b.drop q)).text).code=0
                     . rw[Rq.Uw g j l h16 hfc,Uz.o] at z;have Tq:=H9 (i.o.good.more _ v.o h16);rw[g,j];rw[hfc] at oV;clear l g j h16 v Uz B hfc;generalize (Ln.of (b.drop q)).size=kH at *;generalize (Fd.of (Ln.of (b.drop q)).text)=fd at *;generalize (⟨(Ln.of (b.drop q)).text.toArray⟩:av)=tb2 at *;go_wp2_with fail
                       refine(oV.o _).mono ?_;rintro e N ⟨rfl,r⟩;have amn:nf<=16:=by have h1:=i.o.hb.len;have h2:=i.o.good.many;omega
                       have jo:Below wc.heap.size wc ((N.alloc (K #[V ⟨fd.name.toArray⟩,V ⟨fd.value.toArray⟩] 111)).alloc (K #[V ⟨fd.name.toArray⟩,V ⟨fd.value.toArray⟩] 111)):=then_ (then_ r ((fI _ _).alloc (aL _) _)) ((fI _ _).alloc (aL _) _);have oG:=H9 jo;have b3':(N.alloc (K #[V ⟨fd.name.toArray⟩,V ⟨fd.value.toArray⟩] 111)).cell? ⟨m.heap.size,3,U⟩=M (Z fo nf gL):=((i.o.hb.one.stay r).stay ((fI _ _).alloc (aL _) _)).cell 3;have nW:=H9 ((i.o.hb.row.stay r).stay ((fI _ _).alloc (aL _) (K #[V ⟨fd.name.toArray⟩,V ⟨fd.value.toArray⟩] 111)));have Zw:Hid (m.heap.size+1<=N.heap.size):=(i.o.hb.one.stay r).lt;obtain⟨i1,hi1,hw0,hw1,hw2⟩:=info_parts rT;have Hi1:=H9 hi1;have Hw0:=H9 hw0;have Hw1:=H9 hw1;have Hw2:=H9 hw2
                       clear hi1 hw0 hw1 hw2 r jo b3 oV c0;go_wp2_with (at_builtin;refine gQ rfl (.tmp 103) (.tmp 105) 66 rfl (m.heap.size+1) 111 i1 (.agg #[V ⟨#[]⟩,V ⟨#[]⟩]) 2 32 underlying66 Hi1.o Hw0.o Hw1.o Hw2.o rfl (by decide) rfl (nW.o.alloc _) rfl (jm.aan _ _ 1 _ _ (by simp)) rfl (fun u hu=>by simp at hu;rcases hu with rfl | rfl <;> rfl) (by omega) (by omega) (by rw[fV,fV];have:=Zw.o;omega) ?_;intro a4 c4 w4 hO4 hG4 ZT;have HM:=H9 (i.o.hb.more oG.o hO4 hG4);have m3:=HM.o.1.cell 3;have m3f:=HM.o.1.fz 3;clear hO4 hG4 ZT)
                       go_roundw
                       case rel=>exact⟨q+kH,f3,nf+1,_,a4,c4,by omega,by omega,by go_num,⟨HM.o.2,by rw[bU];omega,by rw[Rq.PS];exact z.o,Tq.o⟩⟩
                       case measure=>simp[intOf];omega
                     . rw[Rq.Yb g j l h16 hfc] at z;have tfc:(((Fd.of (Ln.of (b.drop q)).text).code:Int) != 0)=true:=by rw[cO];omega
                       rw[g,j];clear l g j h16 v Uz B hfc;generalize (Ln.of (b.drop q)).size=kH at *;generalize (Fd.of (Ln.of (b.drop q)).text)=fd at *;generalize (⟨(Ln.of (b.drop q)).text.toArray⟩:av)=tb2 at *;go_wp2_with fail
                       refine(oV.o _).mono ?_;rintro e N ⟨rfl,r⟩;have HF:=H9 (fun ob=>mU w (N.alloc ob) O ca n fd.code D ((Ap.o.stay r).stay ((fI _ _).alloc (aL _) _)) (by omega));clear r oV;go_wp2_with fail
                       refine(HF.o _).mono ?_;rintro e w9 ⟨a9,c9,rfl,s,G⟩;have HW:=H9 s;have UA:=H9 G
                       clear s G;go_wp2;go_ret2;exact uq.of z.o (by rw[aV,<-Bt.o.len];rfl) rfl HW.o UA.o
               . have C:(Ln.of (b.drop q)).ended=F:=by simpa using j
                 rw[Rq.Uu g C] at z;rw[g,C];clear j C g v;generalize (Ln.of (b.drop q)).size=kH at *;generalize (⟨(Ln.of (b.drop q)).text.toArray⟩:av)=tb2 at *;go_wp2;go_ret2;have vB:Rq.of b=(D,true):=by rw[z.o,Rq.goH,bV]
                 exact uq.of vB Ap.o.len rfl Ap.o.want Ap.o.cell.below
             . rw[Rq.Ut g] at z;have tlc:(((Ln.of (b.drop q)).code:Int) != 0)=true:=by rw[cO];omega
               generalize Ln.of (b.drop q)=L at *;obtain⟨t2,kH,en2,lc2⟩:=L;simp only at *;generalize (⟨t2.toArray⟩:av)=tb2 at *;have HF:=H9 (mU w wc O ca n lc2 D Ap.o (by omega));clear g;go_wp2_with fail
               refine HF.o.mono ?_;rintro e w9 ⟨a9,c9,rfl,s,G⟩;have HW:=H9 s;have UA:=H9 G
               clear s G;go_wp2;go_ret2;exact uq.of z.o (by rw[aV,<-Bt.o.len];rfl) rfl HW.o UA.o
     . have C:(Ln.of (b.drop p)).ended=F:=by simpa using j
       rw[Rq.go_open g C] at z;rw[g,C];have tb:decide (b.drop p≠[])=decide (p<b.length):=by
        rw[decide_eq_decide];constructor
        . intro h;have:=fD.2 h;rw[bU] at this;omega
        . intro h e;have:=bD List.length e;rw[bU] at this;simp at this;omega
       have HTb:=H9 tb;clear j C g v tb;generalize (Ln.of (b.drop p)).size=sz at *;generalize (⟨(Ln.of (b.drop p)).text.toArray⟩:av)=tb at *;go_wp2;go_ret2;have vB:Rq.of b=(D,decide (p<b.length)):=by rw[z.o,bV,HTb.o]
       exact uq.of vB HR.o.rs.len rfl HR.o.rs.want HR.o.rs.cell.below
   . rw[Rq.aao g] at z;have tlc:(((Ln.of (b.drop p)).code:Int) != 0)=true:=by rw[cO];omega
     generalize Ln.of (b.drop p)=L at *;obtain⟨t,sz,en,lc⟩:=L;simp only at *;generalize (⟨t.toArray⟩:av)=tb at *;have HF:=H9 (mU w wc O ca n lc D HR.o.rs (by omega));clear g;go_wp2_with fail
     refine HF.o.mono ?_;rintro e m ⟨a2,c2,rfl,s,G⟩;have HW:=H9 s;have UA:=H9 G
     clear s G;go_wp2;go_ret2;exact uq.of z.o (by rw[aV,<-HR.o.rs.len];rfl) rfl HW.o UA.o
theorem J4 (b:au)(c:aj)(cap:Nat)(w:World)(f:iG w c cap b)(g:b.length<=20000):
 Calls prog 19 #[Z c b.length cap] w fun e w'=>∃a2 a,e=.returned (.tuple #[Z a2 (Rq.of b).1.length a,.bool (Rq.of b).2])∧FT w' a2 a ((Rq.of b).1.map Rq.Ev.d)∧Below w.heap.size w w':=by
 by_cases i:0<b.length
 . obtain⟨j,k,rfl,_⟩:=f.lit i;refine(Gq b j k cap w f g).mono ?_;rintro e w' ⟨a2,a,l,m,n⟩;exact⟨a2,a,l,m.abt,n⟩
 . obtain rfl:b=[]:=dn (by omega);exact Gp c cap w f
end Go.Proofs.YtjmndjmhjleabaaGreatDoor