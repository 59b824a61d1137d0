/- The document's own answer for requests, walked: Requests. -/
import Derived.Test.YtjmndjmhjleabaaGreatDoorPk45
set_option maxHeartbeats 6000000
set_option maxRecDepth 100000
open Go.Proofs.Tryz
namespace Go.Proofs.YtjmndjmhjleabaaGreatDoor
open Go.RowKit
theorem C8 (b:List UInt8) (bb oo cap:Nat) (w:World) (hb:aT w (some ⟨bb,oo,none⟩) cap b) (h9:b.length≤20000) :
 Calls prog 19 #[.slice (some ⟨bb,oo,none⟩) b.length cap] w fun e w'=>ow w b e w':=by
 have HB:=H9 hb;have BL:=H9 (fun k n c ao hk hn hc ha W hW=>JB hb h9 k n c ao hk hn hc ha W hW);have hcap:=hb.1;clear hb;go_enter func19,ntmps19;go_wp2;go_loopw [6] (fun va wr=>∃ (p n:Nat) (ao:Option Addr) (ca:Nat) (es:List Rq.Ev) (f:Nat),p≤b.length∧va=.int .i64 p∧ac6 w b p ao ca n es f wr) (fun va _=>b.length+1 - (intOf va).toNat)
 case atStart=>exact ⟨0,0,none,0,[],b.length,Nat.zero_le _,rfl,⟨qX.start w,by simp,by simp [Rq.of],Nat.zero_le _⟩⟩
 case round =>
  obtain ⟨p,n,ao,ca,es,f,hp,rfl,hR⟩:=hrel;have HR:=H9 hR;have hn6:n≤60000:=by have:=hR.few;omega
  have c0:wr.cell? ⟨w.heap.size,0,none⟩=some (.slice ao n ca):=hR.rs.cell.cell 0;clear hR;go_upto_region 4 with fail
  go_cut [7,8,9,10] from 18 to 187 (fun v7 v8 v9 v10 wd=>v7=.string ⟨(Ln.of (b.drop p)).text.toArray⟩∧v8=.int .i64 ((Ln.of (b.drop p)).size:Int)∧v9=.bool (Ln.of (b.drop p)).ended∧v10=.int .i64 ((Ln.of (b.drop p)).code:Int)∧wd=wr)
  case first =>
   by_cases hac:cap=p
   · have pX:=H9 (fun W hW=>BL.o p 0 0 (some ⟨bb,oo,none⟩) hp (by omega) (by omega) (fun e=>absurd hac e) W hW);have e1:b.length - p=0:=by omega
     have e2:cap - p=0:=by omega
     generalize Ln.of (b.drop p)=L at *;subst hac;go_wp2_with fail
     refine (pX.o _ HR.o.rs.cell.below).mono ?_;rintro e w1 ⟨rfl,hw⟩;subst hw;go_wp2;go_meet;exact ⟨rfl,rfl,rfl,rfl,rfl⟩
   · have pX:=H9 (fun W hW=>BL.o p (b.length - p) (cap - p) (some ⟨bb,oo+p,none⟩) hp rfl rfl (fun _=>rfl) W hW);generalize Ln.of (b.drop p)=L at *;go_wp2_with fail
     refine (pX.o _ HR.o.rs.cell.below).mono ?_;rintro e w1 ⟨rfl,hw⟩;subst hw;go_wp2;go_meet;exact ⟨rfl,rfl,rfl,rfl,rfl⟩
  case rest =>
   obtain ⟨rfl,rfl,rfl,rfl,hw⟩:=hcut;subst hw;have hle:=Ln.of_le (b.drop p);have htl:=Ln.oQ (b.drop p);rw [List.length_drop] at hle htl;have gQ:=H9 HR.o.MC;by_cases hlc:(Ln.of (b.drop p)).code=0
   · have HT2:=H9 (Ln.yJ (b.drop p));by_cases hen:(Ln.of (b.drop p)).ended=true
     · have hsz:0<(Ln.of (b.drop p)).size:=by
        rcases Nat.eq_zero_or_pos (Ln.of (b.drop p)).size with h | h
        · have:=Ck.jX h;rw [hen] at this;cases this.2
        · exact h
       have QV:Hid (∀ k,(b.drop p).drop k=b.drop (p+k)):=fun k=>List.drop_drop;have hfu:=HR.o.f_;rw [List.length_drop] at hfu;obtain ⟨f',rfl⟩:∃ f',f=f'+1:=⟨f - 1,by omega⟩;by_cases htx:(Ln.of (b.drop p)).text=[]
       · rw [Rq.Vf hlc hen htx,QV.o] at gQ;rw [hlc,hen,htx];generalize (Ln.of (b.drop p)).size=sz at *;clear hlc hen htx htl HT2 QV;go_wp2;go_roundw
         case rel=>exact ⟨p+sz,n,ao,ca,es,f',by omega,by go_num,⟨HR.o.rs,by rw [List.length_drop];omega,gQ.o,by have:=HR.o.few;omega⟩⟩
         case measure=>simp [intOf];omega
       · have ttx:((⟨(Ln.of (b.drop p)).text.toArray⟩:ByteArray).toList==[])=false:=by rw [beq_eq_false_iff_ne,Lib.toList_data];exact htx
         have Ew:=H9 (fun W=>CY ⟨(Ln.of (b.drop p)).text.toArray⟩ W (by show (Ln.of (b.drop p)).text.toArray.size≤_;rw [List.size_toArray];have:=HT2.o;omega));have hdat:(⟨(Ln.of (b.drop p)).text.toArray⟩:ByteArray).data.toList=(Ln.of (b.drop p)).text:=rfl;rw [hdat] at Ew;cases hfi:Rq.first (Ln.of (b.drop p)).text with
         | inl c =>
           rw [Rq.Kr hlc hen htx hfi] at gQ;rw [hfi] at Ew;unfold Rq.Cb at Ew;simp only at Ew;have hcz:c≠0:=Rq.Mw hfi;have tc:((c:Int) != 0)=true:=by rw [bne_iff_ne];omega
           rw [hlc,hen];clear hfi hdat htx hlc hen htl HT2 QV hcz;generalize (Ln.of (b.drop p)).size=sz at *;generalize (⟨(Ln.of (b.drop p)).text.toArray⟩:ByteArray)=tb at *;go_wp2_with fail
           refine (Ew.o _).mono ?_;rintro e w1 ⟨rfl,hb1⟩;have xE:=H9 (HR.o.rs.stay hb1);have HF:=H9 (fun ob=>iF w (w1.alloc ob) ao ca n c es (xE.o.stay ((Below.refl _ _).alloc (Nat.le_refl _) _)) (by omega));clear hb1 Ew c0;go_wp2_with fail
           refine (HF.o _).mono ?_;rintro e w2 ⟨a2,c2,rfl,hW,hB⟩;have HW:=H9 hW;have QW:=H9 hB
           clear hW hB;go_wp2;go_ret2;exact ow.of gQ.o (by rw [List.length_append,←HR.o.rs.len];rfl) rfl HW.o QW.o
         | inr h =>
           rw [Rq.Vg hlc hen htx hfi,QV.o] at gQ;rw [hfi] at Ew;unfold Rq.Cb at Ew;simp only at Ew;have hgd:=Rq.zW HT2.o hfi;have hf0:=Rq.uM hfi;rw [hlc,hen];have HDs:Hid (p+(Ln.of (b.drop p)).size≤b.length∧0<(Ln.of (b.drop p)).size):=⟨by omega,hsz⟩;clear hfi hdat htx hlc hen htl HT2 QV;generalize (Ln.of (b.drop p)).size=sz at *;generalize (⟨(Ln.of (b.drop p)).text.toArray⟩:ByteArray)=tb at *;go_wp2_with fail
           refine (Ew.o _).mono ?_;rintro e w1 ⟨rfl,hb1⟩;have xE:=H9 (HR.o.rs.stay hb1);have ahh:=H9 HR.o.few;have HR2:Hid (YS w w1 b (p+sz) ao ca n es (f'+1) (f'+1) h none 0 0 (w1.alloc (.cells #[.string ⟨h.method.toArray⟩,.string ⟨h.target.toArray⟩,.int .i64 (h.minor:Int),.slice none 0 0,.int .i64 0] 68))):=⟨⟨dw.made _ _ _,(by rw [hf0];exact aD.nil _ _ _ _),by rw [hf0];rfl⟩,by rw [List.length_drop];omega,by rw [hf0];exact gQ.o,hgd.1⟩;clear hb1 Ew c0 gQ hgd hf0 HR ttx;go_wp2;go_loopw [6] (fun va wr=>∃ (q f2 nf:Nat) (hd:Rq.Hd) (fo:Option Addr) (au:Nat),p+sz≤q∧q≤b.length∧va=.int .i64 q∧YS w w1 b q ao ca n es (f'+1) f2 hd fo au nf wr) (fun va _=>b.length+1 - (intOf va).toNat)
           case atStart=>exact ⟨p+sz,f'+1,0,h,none,0,Nat.le_refl _,HDs.o.1,by go_num,HR2.o⟩
           case round =>
            clear HR2;obtain ⟨q,f2,nf,hd,fo,au,hpq,hq,rfl,hR2⟩:=hrel;have HR2:=H9 hR2;clear hR2;generalize hd=h at *;have c0:wr.cell? ⟨w.heap.size,0,none⟩=some (.slice ao n ca):=(xE.o.stay HR2.o.hb.one.below).cell.cell 0;have b3:wr.cell? ⟨w1.heap.size,3,none⟩=some (.slice fo nf au):=HR2.o.hb.one.cell 3;have vX:Hid (qX w ao ca n es wr):=xE.o.stay HR2.o.hb.one.below;go_upto_region 14 with fail
            go_cut [7,8,9,10] from 58 to 107 (fun v7 v8 v9 v10 wd=>v7=.string ⟨(Ln.of (b.drop q)).text.toArray⟩∧v8=.int .i64 ((Ln.of (b.drop q)).size:Int)∧v9=.bool (Ln.of (b.drop q)).ended∧v10=.int .i64 ((Ln.of (b.drop q)).code:Int)∧wd=wr)
            case first =>
             by_cases hac:cap=q
             · have pX:=H9 (fun W hW=>BL.o q 0 0 (some ⟨bb,oo,none⟩) hq (by omega) (by omega) (fun e=>absurd hac e) W hW);have e1:b.length - q=0:=by omega
               have e2:cap - q=0:=by omega
               generalize Ln.of (b.drop q)=L at *;subst hac;go_wp2_with fail
               refine (pX.o _ vX.o.cell.below).mono ?_;rintro e w2 ⟨rfl,hw⟩;subst hw;go_wp2;go_meet;exact ⟨rfl,rfl,rfl,rfl,rfl⟩
             · have pX:=H9 (fun W hW=>BL.o q (b.length - q) (cap - q) (some ⟨bb,oo+q,none⟩) hq rfl rfl (fun _=>rfl) W hW);generalize Ln.of (b.drop q)=L at *;go_wp2_with fail
               refine (pX.o _ vX.o.cell.below).mono ?_;rintro e w2 ⟨rfl,hw⟩;subst hw;go_wp2;go_meet;exact ⟨rfl,rfl,rfl,rfl,rfl⟩
            case rest =>
             obtain ⟨rfl,rfl,rfl,rfl,hw⟩:=hcut;subst hw;have hle2:=Ln.of_le (b.drop q);rw [List.length_drop] at hle2;have gQ:=H9 HR2.o.MC;have HT2:=H9 (Ln.yJ (b.drop q));by_cases hlc:(Ln.of (b.drop q)).code=0
             · by_cases hen:(Ln.of (b.drop q)).ended=true
               · have hsz2:0<(Ln.of (b.drop q)).size:=by
                  rcases Nat.eq_zero_or_pos (Ln.of (b.drop q)).size with h | h
                  · have:=Ck.jX h;rw [hen] at this;cases this.2
                  · exact h
                 have QV:Hid (∀ k,(b.drop q).drop k=b.drop (q+k)):=fun k=>List.drop_drop;have hfu2:=HR2.o.f_;rw [List.length_drop] at hfu2;obtain ⟨f3,rfl⟩:∃ f3,f2=f3+1:=⟨f2 - 1,by omega⟩;by_cases htx:(Ln.of (b.drop q)).text=[]
                 · rw [Rq.Vh hlc hen htx,QV.o] at gQ;have hlo:=F5 ⟨h.method.toArray⟩ ⟨h.target.toArray⟩ h.minor 0 (Rq.iN h.fields) fo au wc (by have:=HR2.o.hb.row.jg;rw [HR2.o.hb.len] at this;rw [Rq.fF];exact this) (by rw [Rq.fF];exact HR2.o.good.many) (fun x hx=>by
                    unfold Rq.iN at hx;obtain ⟨y,hy,rfl⟩:=List.mem_map.1 hx;have:=HR2.o.good.fields y hy;refine ⟨?_,?_⟩
                    · show y.1.toArray.size≤_;rw [List.size_toArray];omega
                    · show y.2.toArray.size≤_;rw [List.size_toArray];omega)
                   rw [Rq.E9,Rq.fF,←HR2.o.hb.len] at hlo;have nH:Hid (Calls prog 45 #[.agg #[.string ⟨h.method.toArray⟩,.string ⟨h.target.toArray⟩,.int .i64 (h.minor:Int),.slice fo nf au,.int .i64 0]] wc fun e w'=>e=.returned (Rq.lenVal (Rq.len h))∧Below wc.heap.size wc w'):=hlo;have g0:wc.cell? ⟨w1.heap.size,0,none⟩=some (.string ⟨h.method.toArray⟩):=HR2.o.hb.one.cell 0;have g1:wc.cell? ⟨w1.heap.size,1,none⟩=some (.string ⟨h.target.toArray⟩):=HR2.o.hb.one.cell 1;have g2:wc.cell? ⟨w1.heap.size,2,none⟩=some (.int .i64 (h.minor:Int)):=HR2.o.hb.one.cell 2;have g4:wc.cell? ⟨w1.heap.size,4,none⟩=some (.int .i64 0):=HR2.o.hb.one.cell 4;rw [hlc,hen,htx];clear hlo htx hlc hen HT2 QV;generalize (Ln.of (b.drop q)).size=eu at *;cases hln:Rq.len h with
                   | inl c =>
                     have pI:Rq.of b=(es++[.fail c],false):=by
                      rw [gQ.o];show (es++(Rq.goB _ h _).1,(Rq.goB _ h _).2)=_;unfold Rq.goB;rw [hln]
                     have ahi:=H9 pI;have tc:((c:Int) != 0)=true:=by rw [bne_iff_ne];have:=Rq.Ve hln;omega
                     rw [hln] at nH;unfold Rq.lenVal at nH;simp only at nH;clear gQ pI hln;go_wp2_with fail
                     refine nH.o.mono ?_;rintro e w2 ⟨rfl,hb2⟩;have HF:=H9 (iF w w2 ao ca n c es (vX.o.stay hb2) (by omega));clear hb2 nH;go_wp2_with fail
                     refine HF.o.mono ?_;rintro e w9 ⟨a9,c9,rfl,hW,hB⟩;have HW:=H9 hW;have QW:=H9 hB
                     clear hW hB;go_wp2;go_ret2;exact ow.of ahi.o (by rw [List.length_append,←xE.o.len];rfl) rfl HW.o QW.o
                   | inr k =>
                     rw [hln] at nH;unfold Rq.lenVal at nH;simp only at nH;have HKr:=H9 (Rq.rF hln);have ahj:=H9 hln;clear hln;go_wp2_with fail
                     refine nH.o.mono ?_;rintro e w2 ⟨rfl,hb2⟩;have hO2:=HR2.o.hb.one.stay hb2;have k0:w2.cell? ⟨w1.heap.size,0,none⟩=some (.string ⟨h.method.toArray⟩):=hO2.cell 0;have k1:w2.cell? ⟨w1.heap.size,1,none⟩=some (.string ⟨h.target.toArray⟩):=hO2.cell 1;have k2:w2.cell? ⟨w1.heap.size,2,none⟩=some (.int .i64 (h.minor:Int)):=hO2.cell 2;have k3:w2.cell? ⟨w1.heap.size,3,none⟩=some (.slice fo nf au):=hO2.cell 3;have k4:w2.cell? ⟨w1.heap.size,4,none⟩=some (.int .i64 0):=hO2.cell 4;have k4f:=hO2.fz 4;go_upto_region 31 with fail
                     have hO3:=hO2.put 4 (.int .i64 k);have hRw:aD (w2.setCell ⟨w1.heap.size,4,none⟩ (.int .i64 k)) (w1.heap.size+1) 111 2 fo au nf (aC (Rq.iN h.fields)):=(HR2.o.hb.row.stay hb2).turns (S:=fun x=>x=w1.heap.size) (aJ w1.heap.size [.int .i64 k] 4 w2) (fun a e x=>by have:=(HR2.o.hb.row.block a e).1;omega);have hHl:=HR2.o.hb.len;have PY:=H9 HR2.o.good;clear hO2 hb2 k0 k1 k2 k3 k4 k4f nH g0 g1 g2 g4 b3 c0 vX HR2;generalize (w2.setCell ⟨w1.heap.size,4,none⟩ (Value.int .i64 k))=w3 at *;have XY:=xE.o.stay hO3.below;obtain ⟨xs,hOx,hpx⟩:=XY.push (.cells #[.int .i64 1,.string ⟨h.method.toArray⟩,.string ⟨h.target.toArray⟩,.int .i64 (h.minor:Int),.slice fo nf au,.int .i64 k,.slice none 0 0,.string ⟨#[]⟩,.string ⟨#[]⟩,.string ⟨#[]⟩,.slice none 0 0,.int .i64 0] 72);have HOx:=H9 hOx;have HPx:=H9 hpx
                     have HIn:Hid (sD w3 (fun x=>w.heap.size+1≤x∧ak ao≠some x) (Rq.Ev.head { h with length:=k }).d ⟨fo,au,none,0,none,0⟩):=⟨⟨by
                      have:=hRw.jg;rw [hHl,←Rq.fF] at this;exact this,fun _ a e=>⟨by have h1:=(hRw.block a e).1;have h2:=xE.o.cell.lt;omega,fun f=>by have h1:=(hRw.block a e).1;have h2:=(xE.o.want.row a.block f).2;omega⟩⟩,dQ.nil _ _,dQ.nil _ _⟩
                     have HCe:Hid ((Rq.Ev.head { h with length:=k }).d.cells ⟨fo,au,none,0,none,0⟩=#[.int .i64 1,.string ⟨h.method.toArray⟩,.string ⟨h.target.toArray⟩,.int .i64 (h.minor:Int),.slice fo nf au,.int .i64 k,.slice none 0 0,.string ⟨#[]⟩,.string ⟨#[]⟩,.string ⟨#[]⟩,.slice none 0 0,.int .i64 0].toList):=by
                      unfold Hid;simp [Rq.Ev.d,aZ.cells,Rq.fF,hHl]
                     have aeg:Hid (w.heap.size+1≤w3.heap.size):=XY.cell.lt;have x0:w3.cell? ⟨w.heap.size,0,none⟩=some (.slice ao n ca):=XY.cell.cell 0;have k0:w3.cell? ⟨w1.heap.size,0,none⟩=some (.string ⟨h.method.toArray⟩):=hO3.cell 0;have k1:w3.cell? ⟨w1.heap.size,1,none⟩=some (.string ⟨h.target.toArray⟩):=hO3.cell 1;have k2:w3.cell? ⟨w1.heap.size,2,none⟩=some (.int .i64 (h.minor:Int)):=hO3.cell 2;have k3:w3.cell? ⟨w1.heap.size,3,none⟩=some (.slice fo nf au):=hO3.cell 3;have k4:w3.cell? ⟨w1.heap.size,4,none⟩=some (.int .i64 k):=hO3.cell 4;have HNe:Hid (n=es.length):=xE.o.len;clear hHl;obtain ⟨i0,hi0,hz0,hz1,hz2⟩:=info_parts vP;have Hi:=H9 hi0;have eU:=H9 hz0;have dZ:=H9 hz1;have eX:=H9 hz2
                     clear hi0 hz0 hz1 hz2 hOx hpx XY hO3 hRw xE;go_upto_if 128 with (at_builtin;refine aB rfl (.tmp 122) (.tmp 125) 58 rfl (w.heap.size+1) 72 i0 (.agg #[.int .i64 0,.string ⟨#[]⟩,.string ⟨#[]⟩,.int .i64 0,.slice none 0 0,.int .i64 0,.slice none 0 0,.string ⟨#[]⟩,.string ⟨#[]⟩,.string ⟨#[]⟩,.slice none 0 0,.int .i64 0]) 12 184 underlying58 Hi.o eU.o dZ.o eX.o rfl (by decide) rfl HOx.o rfl (bS.made _ _ 1 _ _) rfl (sw _ _ _ HCe.o) (by omega) (by omega) (by rw [World.size_alloc];have:=aeg.o;omega) ?_;intro a3 c3 w4 hO hG hat;have HQ:=H9 (HPx.o a3 c3 w4 (.head { h with length:=k }) _ _ HCe.o HIn.o hO hG hat);have q0:=HQ.o.2.1.cell 0;have q1:=HQ.o.2.1.fz 0;clear hO hG hat)
                     have Cc:=H9 HQ.o.2.2.2;have Vm:Hid (Below w.heap.size w (w4.setCell ⟨w.heap.size,0,none⟩ (.slice a3 (n+1) c3))):=HQ.o.2.2.2.cell.below;clear HOx HPx HIn HCe x0 k0 k1 k2 k3 k4 q0 q1 aeg HQ;generalize (w4.setCell ⟨w.heap.size,0,none⟩ (Value.slice a3 (n+1) c3))=w5 at *;have hlo:q+eu≤b.length:=by omega
                     have hlb:(b.drop (q+eu)).length=b.length - (q+eu):=List.length_drop;clear hlb;obtain ⟨j0,hj0,hy0,hy1,hy2⟩:=info_parts dD;have Hj:=H9 hj0;have JL:=H9 hy0;have JM:=H9 hy1;have JN:=H9 hy2
                     clear hj0 hy0 hy1 hy2;go_cut [6,10,15,16] from 18 to 187 (fun v6 v10 v15 v16 wd=>∃ (p3:Nat) (body:List UInt8) (bo:Option Addr) (bc:Nat) (ov:Bool) (c nb:Nat),v6=.int .i64 p3∧v10=.int .i64 (c:Int)∧v15=.slice bo nb bc∧v16=.bool ov∧nb=body.length∧q+eu≤p3∧(ov=true→c=0→p3≤b.length)∧Vl w w5 b (f'+1) a3 c3 (n+1) (es++[.head { h with length:=k }]) p3 body bo bc ov c wd)
                     case first =>
                      refine JC b bb oo cap w w5 q eu f' n k a3 c3 es h HB.o h9 hlo Vm.o Cc.o ahj.o gQ.o _ _ _ _ _ _ _ _ _ _ _ _ _ _ _ _ _ _ _ _ _ _ _ _ _ _ _ _ _ _ _ _ _ _ _ _ _ _ _ _ _ _ _ _ _ _ _ _ _ _ _ _ _ _ _ _ _ _ _ _ _ _ _ _ _ _ _ _ _ _ _ _ _ _ _ _ _ _ _ _ _ _ _ _ _ _ _ _ _ _ _ _ _ _ _ _ _ _ _ _ _ _ _ _ _ _ _ _ _ _ _ _ _ _ _ _ _ _ _ _ _ _ _ _ _ _ _ _ _ _ _ _ _ _ _ _ _ _ _ _ _ _ _ _ _ _ _ _ _ _ _ _ _ _ _ _ _ _ _ _ _ _ _ _ _ _ _ _ _ _ _ _ _ _ _ _ _ _ _ _ _ _ ?_;intro w6 y6 y8 y10 y15 y16 adL adM adN adO adP adQ adR adS adT adU adV adW adX adY adZ ad1 ad2 ad3 ad4 ad5 ad6 y150 y151 y152 y153 ad7 ad8 ad9 y157 y158 y159 y160 aea aeb aec aed aee hy;simp only [Exit.then];first
                       | (go_step;go_meet;exact hy)
                       | (apply_assumption;go_meet;exact hy)
                       | (rename_i hK;refine hK _ _ ?_;go_meet;exact hy)
                     case rest =>
                      obtain ⟨p3,body,bo,bc,ov,c,nb,rfl,rfl,rfl,rfl,hnb,hp3,ahm,Qg⟩:=hcut;have HR3:=H9 Qg;have x0:wc.cell? ⟨w.heap.size,0,none⟩=some (.slice a3 (n+1) c3):=Qg.rs.cell.cell 0;have x0f:=Qg.rs.cell.fz 0;have TD:=H9 hnb;have aeh:Hid (body≠[]→sD wc (fun x=>w.heap.size+1≤x∧ak a3≠some x) (Rq.Ev.body body).d ⟨none,0,bo,bc,none,0⟩):=fun _=>⟨iT.nil _ _,Qg.bytes.mono (fun x _ e=>⟨by have:=Cc.o.cell.lt;omega,fun f=>by have:=(Cc.o.want.row x f).2;omega⟩),dQ.nil _ _⟩;obtain ⟨xs7,Yy,hp7⟩:=Qg.rs.push (.cells #[.int .i64 2,.string ⟨#[]⟩,.string ⟨#[]⟩,.int .i64 0,.slice none 0 0,.int .i64 0,.slice bo nb bc,.string ⟨#[]⟩,.string ⟨#[]⟩,.string ⟨#[]⟩,.slice none 0 0,.int .i64 0] 72);have HO7:=H9 Yy;have Qd:=H9 hp7
                      have ahn:Hid (w.heap.size+1≤wc.heap.size):=Qg.rs.cell.lt;clear Qg hnb Yy hp7 Cc;go_upto_if 168 with fail
                      go_cut [166] from 18 to 187 (fun _ wd=>∃ a4 c4 n4,n4≤n+2∧qX w a4 c4 n4 (es++[.head { h with length:=k }]++Rq.some_ body) wd)
                      case first =>
                       by_cases hbe:body=[]
                       · have hcz:¬ 0<nb:=by rw [TD.o,hbe];simp
                         have tb0:decide ((nb:Int) > 0)=false:=decide_eq_false (by omega);have HBe:=H9 hbe;clear hbe;go_wp2;go_meet;exact ⟨a3,c3,n+1,by omega,by rw [HBe.o];show qX _ _ _ _ (_++[]) _;rw [List.append_nil];exact HR3.o.rs⟩
                       · have hcp:0<nb:=by rw [TD.o];exact List.length_pos_iff.2 hbe
                         have tb0:decide ((nb:Int) > 0)=true:=decide_eq_true (by omega);have aho:=H9 (aeh.o hbe);have aei:Hid ((Rq.Ev.body body).d.cells ⟨none,0,bo,bc,none,0⟩=(#[.int .i64 2,.string ⟨#[]⟩,.string ⟨#[]⟩,.int .i64 0,.slice none 0 0,.int .i64 0,.slice bo nb bc,.string ⟨#[]⟩,.string ⟨#[]⟩,.string ⟨#[]⟩,.slice none 0 0,.int .i64 0]:Array Value).toList):=by
                          unfold Hid;rw [TD.o];rfl
                         have Bq:Hid (Rq.some_ body=[.body body]):=by unfold Hid Rq.some_;rw [if_neg hbe]
                         clear hbe;go_wp2_with (at_builtin;refine aB rfl (.tmp 169) (.tmp 172) 58 rfl (w.heap.size+1) 72 i0 (.agg #[.int .i64 0,.string ⟨#[]⟩,.string ⟨#[]⟩,.int .i64 0,.slice none 0 0,.int .i64 0,.slice none 0 0,.string ⟨#[]⟩,.string ⟨#[]⟩,.string ⟨#[]⟩,.slice none 0 0,.int .i64 0]) 12 184 underlying58 Hi.o eU.o dZ.o eX.o rfl (by decide) rfl HO7.o rfl (bS.made _ _ 1 _ _) rfl (sw _ _ _ aei.o) (by omega) (by omega) (by rw [World.size_alloc];have:=ahn.o;omega) ?_;intro a4 c4 w8 hO hG hat;have HQ8:=H9 (Qd.o a4 c4 w8 (.body body) _ _ aei.o aho.o hO hG hat);have q0:=HQ8.o.2.1.cell 0;have q1:=HQ8.o.2.1.fz 0;clear hO hG hat)
                         go_meet;exact ⟨a4,c4,n+1+1,by omega,by rw [Bq.o];exact HQ8.o.2.2.2⟩
                      case rest =>
                       obtain ⟨a4,c4,n4,Gb,ZT⟩:=hcut;have aaB:=H9 HR3.o.MC;have HR4:=H9 ZT;have y0:wc.cell? ⟨w.heap.size,0,none⟩=some (.slice a4 n4 c4):=ZT.cell.cell 0;clear ZT HR3 aeh HO7 Qd x0 x0f;generalize es++[Rq.Ev.head { h with length:=k }]++Rq.some_ body=es4 at *;by_cases hc:c=0
                       · subst hc;cases ov with
                         | false =>
                           have JE:Rq.of b=(es4,true):=by rw [aaB.o];simp [Rq.rest]
                           have Vo:=H9 JE;clear JE;go_wp2;go_ret2;exact ow.of Vo.o HR4.o.len rfl HR4.o.want HR4.o.cell.below
                         | true =>
                           have alW:=ahm rfl rfl;have JE:Rq.of b=(es4++[.fin]++(Rq.go (f'+1) (b.drop p3)).1,(Rq.go (f'+1) (b.drop p3)).2):=by rw [aaB.o];simp [Rq.rest]
                           have Vo:=H9 JE;obtain ⟨xs9,dK,hp9⟩:=HR4.o.push (.cells #[.int .i64 3,.string ⟨#[]⟩,.string ⟨#[]⟩,.int .i64 0,.slice none 0 0,.int .i64 0,.slice none 0 0,.string ⟨#[]⟩,.string ⟨#[]⟩,.string ⟨#[]⟩,.slice none 0 0,.int .i64 0] 72);have HO9:=H9 dK;have HP9:=H9 hp9
                           have ahq:Hid (w.heap.size+1≤wc.heap.size):=HR4.o.cell.lt;clear JE dK hp9;go_wp2_with (at_builtin;refine aB rfl (.tmp 184) (.tmp 186) 58 rfl (w.heap.size+1) 72 i0 (.agg #[.int .i64 0,.string ⟨#[]⟩,.string ⟨#[]⟩,.int .i64 0,.slice none 0 0,.int .i64 0,.slice none 0 0,.string ⟨#[]⟩,.string ⟨#[]⟩,.string ⟨#[]⟩,.slice none 0 0,.int .i64 0]) 12 184 underlying58 Hi.o eU.o dZ.o eX.o rfl (by decide) rfl HO9.o rfl (bS.made _ _ 1 _ _) rfl (sw Rq.Ev.fin.d ⟨none,0,none,0,none,0⟩ _ rfl) (by omega) (by omega) (by rw [World.size_alloc];have:=ahq.o;omega) ?_;intro a5 c5 WO hO hG hat;have aaC:=H9 (HP9.o a5 c5 WO .fin ⟨none,0,none,0,none,0⟩ _ rfl ⟨iT.nil _ _,dQ.nil _ _,dQ.nil _ _⟩ hO hG hat);have q0:=aaC.o.2.1.cell 0;have q1:=aaC.o.2.1.fz 0;clear hO hG hat)
                           go_roundw
                           case rel=>exact ⟨p3,n4+1,a5,c5,es4++[.fin],f',by omega,rfl,⟨aaC.o.2.2.2,by rw [List.length_drop];omega,Vo.o,by have:=ahh.o;omega⟩⟩
                           case measure=>simp [intOf];omega
                       · have JE:Rq.of b=(es4++[.fail c],false):=by rw [aaB.o];simp [Rq.rest,hc]
                         have Vo:=H9 JE;have tc:((c:Int) != 0)=true:=by rw [bne_iff_ne];omega
                         have HF:=H9 (iF w wc a4 c4 n4 c es4 HR4.o (by omega));clear JE hc;go_wp2_with fail
                         refine HF.o.mono ?_;rintro e w9 ⟨a9,c9,rfl,hW,hB⟩;have HW:=H9 hW;have QW:=H9 hB
                         clear hW hB;go_wp2;go_ret2;exact ow.of Vo.o (by rw [List.length_append,←HR4.o.len];rfl) rfl HW.o QW.o
                 · have ttx:((⟨(Ln.of (b.drop q)).text.toArray⟩:ByteArray).toList==[])=false:=by rw [beq_eq_false_iff_ne,Lib.toList_data];exact htx
                   by_cases h16:h.fields.length=16
                   · rw [Rq.QO hlc hen htx h16] at gQ;have t16:((nf:Int)==16)=true:=by rw [beq_iff_eq];have:=HR2.o.hb.len;omega
                     rw [hlc,hen];have HF:=H9 (iF w wc ao ca n 8 es vX.o (by omega));clear htx hlc hen h16 HT2 QV;generalize (Ln.of (b.drop q)).size=eu at *;generalize (⟨(Ln.of (b.drop q)).text.toArray⟩:ByteArray)=tb2 at *;go_wp2_with fail
                     refine HF.o.mono ?_;rintro e w9 ⟨a9,c9,rfl,hW,hB⟩;have HW:=H9 hW;have QW:=H9 hB
                     clear hW hB;go_wp2;go_ret2;exact ow.of gQ.o (by rw [List.length_append,←xE.o.len];rfl) rfl HW.o QW.o
                   · have t16:((nf:Int)==16)=false:=by rw [beq_eq_false_iff_ne];have:=HR2.o.hb.len;omega
                     have jW:=H9 (fun W=>yK ⟨(Ln.of (b.drop q)).text.toArray⟩ W (by show (Ln.of (b.drop q)).text.toArray.size≤_;rw [List.size_toArray];have:=HT2.o;omega));have hdat:(⟨(Ln.of (b.drop q)).text.toArray⟩:ByteArray).data.toList=(Ln.of (b.drop q)).text:=rfl;rw [hdat] at jW;unfold Fd.val at jW;by_cases hfc:(Fd.of (Ln.of (b.drop q)).text).code=0
                     · rw [Rq.QS hlc hen htx h16 hfc,QV.o] at gQ;have PY:=H9 (HR2.o.good.more _ HT2.o h16);rw [hlc,hen];rw [hfc] at jW;clear htx hlc hen h16 HT2 QV hdat hfc;generalize (Ln.of (b.drop q)).size=eu at *;generalize (Fd.of (Ln.of (b.drop q)).text)=fd at *;generalize (⟨(Ln.of (b.drop q)).text.toArray⟩:ByteArray)=tb2 at *;go_wp2_with fail
                       refine (jW.o _).mono ?_;rintro e w2 ⟨rfl,hb2⟩;have ajY:nf≤16:=by have h1:=HR2.o.hb.len;have h2:=HR2.o.good.many;omega
                       have bT:Below wc.heap.size wc ((w2.alloc (.cells #[.string ⟨fd.name.toArray⟩,.string ⟨fd.value.toArray⟩] 111)).alloc (.cells #[.string ⟨fd.name.toArray⟩,.string ⟨fd.value.toArray⟩] 111)):=then_ (then_ hb2 ((Below.refl _ _).alloc (Nat.le_refl _) _)) ((Below.refl _ _).alloc (Nat.le_refl _) _);have jK:=H9 bT;have b3':(w2.alloc (.cells #[.string ⟨fd.name.toArray⟩,.string ⟨fd.value.toArray⟩] 111)).cell? ⟨w1.heap.size,3,none⟩=some (.slice fo nf au):=((HR2.o.hb.one.stay hb2).stay ((Below.refl _ _).alloc (Nat.le_refl _) _)).cell 3;have jr:=H9 ((HR2.o.hb.row.stay hb2).stay ((Below.refl _ _).alloc (Nat.le_refl _) (.cells #[.string ⟨fd.name.toArray⟩,.string ⟨fd.value.toArray⟩] 111)));have WU:Hid (w1.heap.size+1≤w2.heap.size):=(HR2.o.hb.one.stay hb2).lt;obtain ⟨i1,hi1,hw0,hw1,hw2⟩:=info_parts mK;have Hi1:=H9 hi1;have Hw0:=H9 hw0;have Hw1:=H9 hw1;have Hw2:=H9 hw2
                       clear hi1 hw0 hw1 hw2 hb2 bT b3 jW c0;go_wp2_with (at_builtin;refine aB rfl (.tmp 103) (.tmp 105) 66 rfl (w1.heap.size+1) 111 i1 (.agg #[.string ⟨#[]⟩,.string ⟨#[]⟩]) 2 32 underlying66 Hi1.o Hw0.o Hw1.o Hw2.o rfl (by decide) rfl (jr.o.alloc _) rfl (bS.XO _ _ 1 _ _ (by simp)) rfl (fun u hu=>by simp at hu;rcases hu with rfl | rfl <;> rfl) (by omega) (by omega) (by rw [World.size_alloc,World.size_alloc];have:=WU.o;omega) ?_;intro a4 c4 w4 hO4 hG4 Xo;have HM:=H9 (HR2.o.hb.more jK.o hO4 hG4);have m3:=HM.o.1.cell 3;have m3f:=HM.o.1.fz 3;clear hO4 hG4 Xo)
                       go_roundw
                       case rel=>exact ⟨q+eu,f3,nf+1,_,a4,c4,by omega,by omega,by go_num,⟨HM.o.2,by rw [List.length_drop];omega,by rw [Rq.Mx];exact gQ.o,PY.o⟩⟩
                       case measure=>simp [intOf];omega
                     · rw [Rq.Vi hlc hen htx h16 hfc] at gQ;have tfc:(((Fd.of (Ln.of (b.drop q)).text).code:Int) != 0)=true:=by rw [bne_iff_ne];omega
                       rw [hlc,hen];clear htx hlc hen h16 HT2 QV hdat hfc;generalize (Ln.of (b.drop q)).size=eu at *;generalize (Fd.of (Ln.of (b.drop q)).text)=fd at *;generalize (⟨(Ln.of (b.drop q)).text.toArray⟩:ByteArray)=tb2 at *;go_wp2_with fail
                       refine (jW.o _).mono ?_;rintro e w2 ⟨rfl,hb2⟩;have HF:=H9 (fun ob=>iF w (w2.alloc ob) ao ca n fd.code es ((vX.o.stay hb2).stay ((Below.refl _ _).alloc (Nat.le_refl _) _)) (by omega));clear hb2 jW;go_wp2_with fail
                       refine (HF.o _).mono ?_;rintro e w9 ⟨a9,c9,rfl,hW,hB⟩;have HW:=H9 hW;have QW:=H9 hB
                       clear hW hB;go_wp2;go_ret2;exact ow.of gQ.o (by rw [List.length_append,←xE.o.len];rfl) rfl HW.o QW.o
               · have hen':(Ln.of (b.drop q)).ended=false:=by simpa using hen
                 rw [Rq.QN hlc hen'] at gQ;rw [hlc,hen'];clear hen hen' hlc HT2;generalize (Ln.of (b.drop q)).size=eu at *;generalize (⟨(Ln.of (b.drop q)).text.toArray⟩:ByteArray)=tb2 at *;go_wp2;go_ret2;have pI:Rq.of b=(es,true):=by rw [gQ.o,Rq.goH,List.append_nil]
                 exact ow.of pI vX.o.len rfl vX.o.want vX.o.cell.below
             · rw [Rq.QM hlc] at gQ;have tlc:(((Ln.of (b.drop q)).code:Int) != 0)=true:=by rw [bne_iff_ne];omega
               generalize Ln.of (b.drop q)=L at *;obtain ⟨t2,eu,en2,lc2⟩:=L;simp only at *;generalize (⟨t2.toArray⟩:ByteArray)=tb2 at *;have HF:=H9 (iF w wc ao ca n lc2 es vX.o (by omega));clear hlc;go_wp2_with fail
               refine HF.o.mono ?_;rintro e w9 ⟨a9,c9,rfl,hW,hB⟩;have HW:=H9 hW;have QW:=H9 hB
               clear hW hB;go_wp2;go_ret2;exact ow.of gQ.o (by rw [List.length_append,←xE.o.len];rfl) rfl HW.o QW.o
     · have hen':(Ln.of (b.drop p)).ended=false:=by simpa using hen
       rw [Rq.go_open hlc hen'] at gQ;rw [hlc,hen'];have tb:decide (b.drop p≠[])=decide (p<b.length):=by
        rw [decide_eq_decide];constructor
        · intro h;have:=List.length_pos_iff.2 h;rw [List.length_drop] at this;omega
        · intro h e;have:=congrArg List.length e;rw [List.length_drop] at this;simp at this;omega
       have HTb:=H9 tb;clear hen hen' hlc HT2 tb;generalize (Ln.of (b.drop p)).size=sz at *;generalize (⟨(Ln.of (b.drop p)).text.toArray⟩:ByteArray)=tb at *;go_wp2;go_ret2;have pI:Rq.of b=(es,decide (p<b.length)):=by rw [gQ.o,List.append_nil,HTb.o]
       exact ow.of pI HR.o.rs.len rfl HR.o.rs.want HR.o.rs.cell.below
   · rw [Rq.XP hlc] at gQ;have tlc:(((Ln.of (b.drop p)).code:Int) != 0)=true:=by rw [bne_iff_ne];omega
     generalize Ln.of (b.drop p)=L at *;obtain ⟨t,sz,en,lc⟩:=L;simp only at *;generalize (⟨t.toArray⟩:ByteArray)=tb at *;have HF:=H9 (iF w wc ao ca n lc es HR.o.rs (by omega));clear hlc;go_wp2_with fail
     refine HF.o.mono ?_;rintro e w1 ⟨a2,c2,rfl,hW,hB⟩;have HW:=H9 hW;have QW:=H9 hB
     clear hW hB;go_wp2;go_ret2;exact ow.of gQ.o (by rw [List.length_append,←HR.o.rs.len];rfl) rfl HW.o QW.o
theorem F6 (b:List UInt8) (ab:Option Addr) (cap:Nat) (w:World) (hb:aT w ab cap b) (h9:b.length≤20000) :
 Calls prog 19 #[.slice ab b.length cap] w fun e w'=>∃ a2 c2,e=.returned (.tuple #[.slice a2 (Rq.of b).1.length c2,.bool (Rq.of b).2])∧Co w' a2 c2 ((Rq.of b).1.map Rq.Ev.d)∧Below w.heap.size w w':=by
 by_cases h0:0<b.length
 · obtain ⟨bb,oo,rfl,_⟩:=hb.lit h0;refine (C8 b bb oo cap w hb h9).mono ?_;rintro e w' ⟨a2,c2,he,hw,hB⟩;exact ⟨a2,c2,he,hw.YV,hB⟩
 · obtain rfl:b=[]:=List.eq_nil_of_length_eq_zero (by omega);exact CZ ab cap w hb
end Go.Proofs.YtjmndjmhjleabaaGreatDoor