/- The document's own answer, walked: ChunksOf. -/
import Derived.Test.YtjmndjmhjleabaaGreatDoorPk20
import Derived.Deep.DeepCutAuto
set_option maxHeartbeats 4000000
set_option maxRecDepth 100000
open Go.Proofs.Tryz
namespace Go.Proofs.YtjmndjmhjleabaaGreatDoor
open Go.RowKit
theorem CW (b:List UInt8) (bb oo cap:Nat) (w:World) (hb:aT w (some ⟨bb,oo,none⟩) cap b) (h9:b.length≤20000) :
 Calls prog 46 #[.slice (some ⟨bb,oo,none⟩) b.length cap] w fun e w'=>fP w b e w':=by
 have HB:=H9 hb;have BL:=H9 (fun k n c ao hk hn hc ha W hW=>JB hb h9 k n c ao hk hn hc ha W hW);have hcap:=hb.1;clear hb;obtain ⟨i0,hi0,hz0,hz1,hz2⟩:=info_parts dD;have Hi:=H9 hi0;have eU:=H9 hz0;have dZ:=H9 hz1;have eX:=H9 hz2
 clear hi0 hz0 hz1 hz2;go_enter func46,ntmps46;go_wp2;go_loopw [6,7] (fun vb va wr=>∃ (p n:Nat) (ao:Option Addr) (ca:Nat) (body:List UInt8) (f:Nat),p≤b.length∧vb=.slice ao n ca∧va=.int .i64 p∧ac3 w b p ao ca n body f wr) (fun _ va _=>b.length+1 - (intOf va).toNat)
 case atStart=>exact ⟨0,0,none,0,[],b.length,Nat.zero_le _,rfl,rfl,⟨aR.nil _ _ _,rfl,by omega,by simp,by simp [Ck.shift,Ck.of],Below.refl _ _⟩⟩
 case round =>
  obtain ⟨p,n,ao,ca,body,f,hp,rfl,rfl,hR⟩:=hrel;have HR:=H9 hR;have Gb:=hR.n_;clear hR;have hle:=Ln.of_le (b.drop p);have htl:=Ln.oQ (b.drop p);rw [List.length_drop] at hle htl;have hkind:=Ln.yZ (b.drop p);by_cases hbad:(Ln.of (b.drop p)).code≠0∨(Ln.of (b.drop p)).ended=false
  · have hof:=HR.o.MC;rw [Ck.Kr hbad] at hof;have gQ:=H9 hof;clear hof hkind;by_cases hac:cap=p
    · have pX:=H9 (fun W hW=>BL.o p 0 0 (some ⟨bb,oo,none⟩) hp (by omega) (by omega) (fun e=>absurd hac e) W hW);have hnil:b.drop p=[]:=List.drop_eq_nil_of_le (by omega);rw [hnil] at pX gQ;have e0:Ln.of []=Ln.open_:=rfl;rw [e0] at pX gQ;unfold Ln.open_ at pX gQ;simp only at pX gQ;have e1:b.length - p=0:=by omega
      have e2:cap - p=0:=by omega
      clear hbad hle htl hnil e0;subst hac;go_wp2_with fail
      refine (pX.o _ HR.o.below).mono ?_;rintro e w1 ⟨rfl,hw⟩;subst hw;go_wp2;(try simp only [Exit.inBlock,Exit.then]);refine bodyPost_ret (aH rfl _ _ _) rfl ?_;exact fP.of body (cap+0) false 0 ao ca n _ (by rw [gQ.o];simp [Ck.shift]) HR.o.len (by omega) rfl HR.o.own HR.o.below
    · have pX:=H9 (fun W hW=>BL.o p (b.length - p) (cap - p) (some ⟨bb,oo+p,none⟩) hp rfl rfl (fun _=>rfl) W hW);generalize Ln.of (b.drop p)=L at *;obtain ⟨t,sz,en,lc⟩:=L;simp only at *;generalize (⟨t.toArray⟩:ByteArray)=tb at *;by_cases hlc:lc=0
      · subst hlc;have hen:en=false:=by
         rcases hbad with h | h
         · exact absurd rfl h
         · exact h
        subst hen;clear hbad;go_wp2_with fail
        refine (pX.o _ HR.o.below).mono ?_;rintro e w1 ⟨rfl,hw⟩;subst hw;go_wp2;(try simp only [Exit.inBlock,Exit.then]);refine bodyPost_ret (aH rfl _ _ _) rfl ?_;exact fP.of body (p+sz) false 0 ao ca n _ (by rw [gQ.o];simp [Ck.shift]) HR.o.len (by omega) rfl HR.o.own HR.o.below
      · have tlc:((lc:Int) != 0)=true:=by rw [bne_iff_ne];omega
        clear hbad;go_wp2_with fail
        refine (pX.o _ HR.o.below).mono ?_;rintro e w1 ⟨rfl,hw⟩;subst hw;go_wp2;(try simp only [Exit.inBlock,Exit.then]);refine bodyPost_ret (aH rfl _ _ _) rfl ?_;exact fP.of body (p+sz) false lc ao ca n _ (by rw [gQ.o];simp [Ck.shift]) HR.o.len (by omega) rfl HR.o.own HR.o.below
  · have hlc:(Ln.of (b.drop p)).code=0:=by
     rcases Nat.eq_zero_or_pos (Ln.of (b.drop p)).code with h | h
     · exact h
     · exact absurd (Or.inl (by omega)) hbad
    have hen:(Ln.of (b.drop p)).ended=true:=by
     cases h:(Ln.of (b.drop p)).ended
     · exact absurd (Or.inr h) hbad
     · rfl
    have hsz:0<(Ln.of (b.drop p)).size:=by
     rcases Nat.eq_zero_or_pos (Ln.of (b.drop p)).size with h | h
     · have:=Ck.jX h;rw [hen] at this;cases this.2
     · exact h
    clear hkind;have hac:¬ cap=p:=by omega
    have pX:=H9 (fun W hW=>BL.o p (b.length - p) (cap - p) (some ⟨bb,oo+p,none⟩) hp rfl rfl (fun _=>rfl) W hW);rw [hlc,hen] at pX;have o8:=H9 hbad;clear hbad hlc hen;have hdd:∀ k,(b.drop p).drop k=b.drop (p+k):=fun k=>List.drop_drop;have QV:=H9 hdd;clear hdd;generalize hT:(Ln.of (b.drop p)).text=t at *;generalize hS:(Ln.of (b.drop p)).size=sz at *;have HT:=H9 hT;have HS:=H9 hS
    clear hT hS;have htz:(⟨t.toArray⟩:ByteArray).size=t.length:=by show t.toArray.size=_;simp
    have htd:(⟨t.toArray⟩:ByteArray).data.toList=t:=rfl;obtain ⟨aaz,wq,hq,VA,hzq,hIq⟩:=uE (P:=prog) wr ⟨t.toArray⟩ 9 31 5 underlying9 underlying31 underlying5;have Cm:=H9 (BZ wq _ aaz (⟨t.toArray⟩:ByteArray).size _ ⟨#[59]⟩ hIq (by rw [htd,htz]) (by decide) (by omega));rw [htd] at Cm;have ME:=H9 (then_ HR.o.below VA);generalize htb:(⟨t.toArray⟩:ByteArray)=tb at *;have XR:Hid (aR wq w.heap.size 5 ao ca body):=HR.o.own.stay VA;generalize wr.heap.size=qb at hq Cm;have HTz:=H9 htz;have HTd:=H9 htd
    clear VA hzq hIq htb htz htd;go_wp2_with fail
    refine (pX.o _ HR.o.below).mono ?_;rintro e w1 ⟨rfl,hw⟩;subst hw;clear pX;go_wp2_with fail
    refine Cm.o.mono ?_;rintro e w2 ⟨r,rfl,hfi,hw⟩;subst hw;clear Cm hq;have hfo:=Ca hfi;clear hfi;go_upto_if 49 with fail
    go_cut [8] from 22 to 122 (fun v wd=>∃ s:ByteArray,v=.string s∧s.data.toList=t.take (Fd.at_ 59 t)∧s.size≤20000∧wd=w2)
    case first =>
     rcases hfo with ⟨rfl,hk⟩ | ⟨hr,hk⟩
     · have HK:=H9 hk;clear hk;go_wp2;go_meet;exact ⟨tb,rfl,by rw [HK.o,List.take_length,HTd.o],by rw [HTz.o];omega,rfl⟩
     · have e1:(0:Int)≤r:=by omega
       obtain ⟨k,rfl⟩:∃ k:Nat,r=k:=⟨Fd.at_ 59 t,hr⟩;have hk':Fd.at_ 59 t=k:=by omega
       have e2:(k:Int)≤tb.size:=by rw [HTz.o];omega
       have HK:=H9 hk';clear hk hr hk';go_wp2;go_meet;exact ⟨tb.extract 0 k,rfl,by rw [HK.o,Lib.extract_data,HTd.o];simp,by have:=HTz.o;simp;omega,rfl⟩
    case rest =>
     obtain ⟨s,rfl,hs,hsl,hw⟩:=hcut;subst hw;clear hfo HTz HTd;have nN:=H9 (yh s wc (by unfold maxLen;omega));have hso:=XQ t s hs;have MF:=qw s.data.toList;rw [Ch.aQ] at MF;have HN:=H9 (fun W=>yY ⟨(Lib.trimS s.data.toList Ch.ws).toArray⟩ W (by show (Lib.trimS _ _).toArray.size≤maxLen;rw [List.size_toArray];unfold maxLen;omega));have hdat:(⟨(Lib.trimS s.data.toList Ch.ws).toArray⟩:ByteArray).data.toList=Lib.trimS s.data.toList Ch.ws:=rfl;rw [hdat,←hso] at HN;have aaA:=Af t;clear hso hdat hs MF hsl;generalize (⟨(Lib.trimS s.data.toList Ch.ws).toArray⟩:ByteArray)=tv at *;generalize hz:(Ck.size t).1=z at *;generalize hok:(Ck.size t).2=ok at *;have HZ:=H9 hz;have kV:=H9 hok
     clear hz hok;have hz0:=aaA.1;have hz1:=aaA.2;clear aaA;cases ok
     · go_wp2_with fail
       refine nN.o.mono ?_;rintro e w3 ⟨rfl,hw⟩;subst hw;go_wp2_with fail
       refine (HN.o _).mono ?_;rintro e w4 ⟨rfl,hb4⟩;have dx:=H9 hb4;clear hb4;go_wp2;(try simp only [Exit.inBlock,Exit.then]);refine bodyPost_ret (aH rfl _ _ _) rfl ?_;have h:=HR.o.MC;rw [Ck.Wp o8.o (by rw [HT.o];exact kV.o),HS.o] at h;exact fP.of body (p+sz) false 7 ao ca n _ (by rw [h];simp [Ck.shift]) HR.o.len (by omega) rfl (XR.o.stay dx.o) (then_ ME.o dx.o)
     · obtain ⟨k,rfl⟩:∃ k:Nat,z=k:=⟨z.toNat,by omega⟩;have NS:Hid ((Ck.size (Ln.of (b.drop p)).text).1.toNat=k):=by unfold Hid;rw [HT.o,HZ.o];simp
       have FZ:Hid ((Ck.size (Ln.of (b.drop p)).text).2=true):=by unfold Hid;rw [HT.o];exact kV.o
       clear HZ kV;by_cases h4:4000<n+k
       · have t4:decide ((n:Int)+k > 4000)=true:=decide_eq_true (by omega);go_wp2_with fail
         refine nN.o.mono ?_;rintro e w3 ⟨rfl,hw⟩;subst hw;go_wp2_with fail
         refine (HN.o _).mono ?_;rintro e w4 ⟨rfl,hb4⟩;have dx:=H9 hb4;clear hb4;go_wp2;(try simp only [Exit.inBlock,Exit.then]);refine bodyPost_ret (aH rfl _ _ _) rfl ?_;have h:=HR.o.MC;rw [Ck.Wq o8.o FZ.o (by rw [NS.o];exact h4),HS.o] at h;exact fP.of body (p+sz) false 4 ao ca n _ (by rw [h];simp [Ck.shift]) HR.o.len (by omega) rfl (XR.o.stay dx.o) (then_ ME.o dx.o)
       · have t4:decide ((n:Int)+k > 4000)=false:=decide_eq_false (by omega);by_cases hk0:k=0
         · subst hk0;have hof:=HR.o.MC;rw [Ck.Ws o8.o FZ.o (by rw [NS.o];exact h4) NS.o,HS.o,Ck.ji,List.append_nil,List.drop_drop] at hof;have gQ:=H9 hof;have HLen:=H9 HR.o.len;have NM:=H9 HR.o.f_
           clear hof HR;go_wp2_with fail
           refine nN.o.mono ?_;rintro e w3 ⟨rfl,hw⟩;subst hw;go_wp2_with fail
           refine (HN.o _).mono ?_;rintro e w4 ⟨rfl,hb4⟩;have dx:=H9 hb4;have Yn:Hid (YQ w b (p+sz) 0 ao ca n body f w4):=⟨XR.o.stay hb4,HLen.o,by omega,by have:=NM.o;rw [List.length_drop] at this ⊢;omega,gQ.o,then_ ME.o hb4⟩;clear hb4 HN nN gQ HLen NM XR ME HT HS NS FZ o8 t4 h4;have hq0:p+sz≤b.length:=by omega
           go_wp2;go_loopw [7,15] (fun va vk wr2=>∃ (q m f2:Nat),q≤b.length∧va=.int .i64 q∧vk=.int .i64 m∧YQ w b q m ao ca n body f2 wr2) (fun va _ _=>b.length+1 - (intOf va).toNat)
           case atStart=>exact ⟨p+sz,0,f,hq0,by go_num,rfl,Yn.o⟩
           case round =>
            clear Yn dx hq0 hle hsz hac htl hp Gb;obtain ⟨q,m,f2,hq,rfl,rfl,hR⟩:=hrel;have HR:=H9 hR;have alG:=hR.k_;clear hR;have hle:=Ln.of_le (b.drop q);have htl:=Ln.oQ (b.drop q);rw [List.length_drop] at hle htl;by_cases hbad:(Ln.of (b.drop q)).code≠0∨(Ln.of (b.drop q)).ended=false
            · have hof:=HR.o.MC;rw [Ck.OD hbad] at hof;have gQ:=H9 hof;clear hof;by_cases hac:cap=q
              · have pX:=H9 (fun W hW=>BL.o q 0 0 (some ⟨bb,oo,none⟩) hq (by omega) (by omega) (fun e=>absurd hac e) W hW);have hnil:b.drop q=[]:=List.drop_eq_nil_of_le (by omega);rw [hnil] at pX gQ;have e0:Ln.of []=Ln.open_:=rfl;rw [e0] at pX gQ;unfold Ln.open_ at pX gQ;simp only at pX gQ;have e1:b.length - q=0:=by omega
                clear hbad hle htl hnil e0;subst hac;go_wp2_with fail
                refine (pX.o _ HR.o.below).mono ?_;rintro e w1 ⟨rfl,hw⟩;subst hw;go_wp2;(try simp only [Exit.inBlock,Exit.then]);refine bodyPost_ret (aH rfl _ _ _) rfl ?_;exact fP.of body (cap+0) false 0 ao ca n _ (by rw [gQ.o];simp [Ck.shift]) HR.o.len (by omega) rfl HR.o.own HR.o.below
              · have pX:=H9 (fun W hW=>BL.o q (b.length - q) (cap - q) (some ⟨bb,oo+q,none⟩) hq rfl rfl (fun _=>rfl) W hW);generalize Ln.of (b.drop q)=L at *;obtain ⟨t,sz,en,lc⟩:=L;simp only at *;generalize (⟨t.toArray⟩:ByteArray)=tb at *;by_cases hlc:lc=0
                · subst hlc;have hen:en=false:=by
                   rcases hbad with h | h
                   · exact absurd rfl h
                   · exact h
                  subst hen;clear hbad;go_wp2_with fail
                  refine (pX.o _ HR.o.below).mono ?_;rintro e w1 ⟨rfl,hw⟩;subst hw;go_wp2;(try simp only [Exit.inBlock,Exit.then]);refine bodyPost_ret (aH rfl _ _ _) rfl ?_;exact fP.of body (q+sz) false 0 ao ca n _ (by rw [gQ.o];simp [Ck.shift]) HR.o.len (by omega) rfl HR.o.own HR.o.below
                · have tlc:((lc:Int) != 0)=true:=by rw [bne_iff_ne];omega
                  clear hbad;go_wp2_with fail
                  refine (pX.o _ HR.o.below).mono ?_;rintro e w1 ⟨rfl,hw⟩;subst hw;go_wp2;(try simp only [Exit.inBlock,Exit.then]);refine bodyPost_ret (aH rfl _ _ _) rfl ?_;exact fP.of body (q+sz) false lc ao ca n _ (by rw [gQ.o];simp [Ck.shift]) HR.o.len (by omega) rfl HR.o.own HR.o.below
            · obtain ⟨hlc,hen,hsz⟩:=EF hbad;have hac:¬ cap=q:=by omega
              have pX:=H9 (fun W hW=>BL.o q (b.length - q) (cap - q) (some ⟨bb,oo+q,none⟩) hq rfl rfl (fun _=>rfl) W hW);rw [hlc,hen] at pX;have o8:=H9 hbad;have jW:=H9 (fun W=>yK ⟨(Ln.of (b.drop q)).text.toArray⟩ W (by show (Ln.of (b.drop q)).text.toArray.size≤_;rw [List.size_toArray];omega));have hdat:(⟨(Ln.of (b.drop q)).text.toArray⟩:ByteArray).data.toList=(Ln.of (b.drop q)).text:=rfl;rw [hdat] at jW;unfold Fd.val at jW;have hof:=HR.o.MC;clear hbad hlc hen hdat;by_cases htx:(Ln.of (b.drop q)).text=[]
              · rw [Ck.OE o8.o htx] at hof;rw [htx] at pX;have gQ:=H9 hof;clear hof jW o8;generalize (Ln.of (b.drop q)).size=sz at *;go_wp2_with fail
                refine (pX.o _ HR.o.below).mono ?_;rintro e w1 ⟨rfl,hw⟩;subst hw;go_wp2;(try simp only [Exit.inBlock,Exit.then]);refine bodyPost_ret (aH rfl _ _ _) rfl ?_;exact fP.of body (q+sz) true 0 ao ca n _ (by rw [gQ.o];simp [Ck.shift]) HR.o.len (by omega) rfl HR.o.own HR.o.below
              · have ttx:((⟨(Ln.of (b.drop q)).text.toArray⟩:ByteArray).toList==[])=false:=by rw [beq_eq_false_iff_ne,Lib.toList_data];exact htx
                by_cases h16:m=16
                · rw [Ck.Kt o8.o htx h16] at hof;have gQ:=H9 hof;clear hof jW o8 htx;subst h16;generalize (Ln.of (b.drop q)).size=sz at *;generalize (⟨(Ln.of (b.drop q)).text.toArray⟩:ByteArray)=tb at *;go_wp2_with fail
                  refine (pX.o _ HR.o.below).mono ?_;rintro e w1 ⟨rfl,hw⟩;subst hw;go_wp2;(try simp only [Exit.inBlock,Exit.then]);refine bodyPost_ret (aH rfl _ _ _) rfl ?_;exact fP.of body (q+sz) false 8 ao ca n _ (by rw [gQ.o];simp [Ck.shift]) HR.o.len (by omega) rfl HR.o.own HR.o.below
                · have t16:((m:Int)==16)=false:=by rw [beq_eq_false_iff_ne];omega
                  by_cases hfc:(Fd.of (Ln.of (b.drop q)).text).code=0
                  · have YR:=HR.o.f_;rw [List.length_drop] at YR;obtain ⟨f3,rfl⟩:∃ f3,f2=f3+1:=⟨f2 - 1,by omega⟩;rw [Ck.Kv o8.o htx h16 hfc,Ck.ji,List.append_nil,List.drop_drop] at hof;rw [hfc] at jW;have gQ:=H9 hof;have ZO:Hid ((b.drop (q+(Ln.of (b.drop q)).size)).length<f3+1):=by unfold Hid;rw [List.length_drop];omega
                    clear hof o8 htx hfc;generalize (⟨(Fd.of (Ln.of (b.drop q)).text).name.toArray⟩:ByteArray)=nm at jW;generalize (⟨(Fd.of (Ln.of (b.drop q)).text).value.toArray⟩:ByteArray)=vl at jW;generalize (Ln.of (b.drop q)).size=sz at *;generalize (⟨(Ln.of (b.drop q)).text.toArray⟩:ByteArray)=tb at *;go_wp2_with fail
                    refine (pX.o _ HR.o.below).mono ?_;rintro e w1 ⟨rfl,hw⟩;subst hw;go_wp2_with fail
                    refine (jW.o _).mono ?_;rintro e w2 ⟨rfl,hb2⟩;have HB2:=H9 hb2;clear hb2;go_wp2;go_roundw
                    case rel =>
                     have hb3:=HB2.o.alloc HB2.o.size (.cells #[.string nm,.string vl] 111);exact ⟨q+sz,m+1,f3,by omega,by go_num,by go_num,⟨HR.o.own.stay hb3,HR.o.len,by omega,ZO.o,gQ.o,then_ HR.o.below hb3⟩⟩
                    case measure=>simp [intOf];omega
                  · have tfc:(((Fd.of (Ln.of (b.drop q)).text).code:Int) != 0)=true:=by rw [bne_iff_ne];omega
                    rw [Ck.Ku o8.o htx h16 hfc] at hof;have gQ:=H9 hof;clear hof o8 htx hfc;generalize (⟨(Fd.of (Ln.of (b.drop q)).text).name.toArray⟩:ByteArray)=nm at jW;generalize (⟨(Fd.of (Ln.of (b.drop q)).text).value.toArray⟩:ByteArray)=vl at jW;generalize (Fd.of (Ln.of (b.drop q)).text).code=fc at *;generalize (Ln.of (b.drop q)).size=sz at *;generalize (⟨(Ln.of (b.drop q)).text.toArray⟩:ByteArray)=tb at *;go_wp2_with fail
                    refine (pX.o _ HR.o.below).mono ?_;rintro e w1 ⟨rfl,hw⟩;subst hw;go_wp2_with fail
                    refine (jW.o _).mono ?_;rintro e w2 ⟨rfl,hb2⟩;have HB2:=H9 hb2;clear hb2;go_wp2;(try simp only [Exit.inBlock,Exit.then]);refine bodyPost_ret (aH rfl _ _ _) rfl ?_;have hb3:=HB2.o.alloc HB2.o.size (.cells #[.string nm,.string vl] 111);exact fP.of body (q+sz) false fc ao ca n _ (by rw [gQ.o];simp [Ck.shift]) HR.o.len (by omega) rfl (HR.o.own.stay hb3) (then_ HR.o.below hb3)
         · have tk:((k:Int)==0)=false:=by rw [beq_eq_false_iff_ne];omega
           have qB:=H9 (fun W (hW:Below wc.heap.size wc W)=>XR.o.stay hW);by_cases hsh:b.length - (p+sz)<k
           · have tsh:decide ((b.length:Int) - ((p:Int)+sz)<k)=true:=decide_eq_true (by omega);have e1:(p:Int)+sz≤b.length:=by omega
             have e2:((p:Int)+sz).toNat=p+sz:=by omega
             have HD:Hid (b.drop (p+sz)=(b.drop p).drop sz):=by unfold Hid;rw [List.drop_drop]
             have hdl:(b.drop (p+sz)).length=b.length - (p+sz):=List.length_drop;have MG:=H9 hdl;clear hdl;have HI4:=H9 (fun W (hW:Below w.heap.size w W) (aF:Option Addr) (ha:cap≠p+sz→aF=some ⟨bb,oo+(p+sz),none⟩)=>show aT W aF (cap - (p+sz)) (b.drop (p+sz)) by
              have:=(HB.o.stay hW).cut (aF:=aF) (p+sz) b.length (by omega) (Nat.le_refl _) (fun e=>by rw [ha e];simp [Addr.add_lit]);rwa [List.take_of_length_le (by rw [List.length_drop];omega)] at this)
             have hof:=HR.o.MC;rw [Ck.SK o8.o FZ.o (by rw [NS.o];omega) (by rw [NS.o];exact hk0) (by rw [NS.o,HS.o,List.length_drop,List.length_drop];omega),HS.o,←HD.o] at hof;have gQ:=H9 hof;have HLen:=H9 HR.o.len;clear hof HR BL;by_cases hc2:cap=p+sz
             · subst hc2;have e3:b.length - (p+sz)=0:=by omega
               have hd0:b.drop (p+sz)=[]:=List.drop_eq_nil_of_le (by omega);rw [hd0] at gQ;have HI5:=H9 (fun (W:World)=>(show aT W (some ⟨bb,oo,none⟩) 0 [] from ⟨Nat.le_refl _,fun _=>rfl,fun j hj=>by cases hj⟩));clear HI4 hd0 HD MG;go_wp2_with fail
               refine nN.o.mono ?_;rintro e w3 ⟨rfl,hw⟩;subst hw;go_wp2_with fail
               refine (HN.o _).mono ?_;rintro e w4 ⟨rfl,hb4⟩;have dx:=H9 (then_ ME.o hb4);have nP:=H9 (qB.o _ hb4)
               clear hb4;go_wp2_with (at_builtin;refine aV rfl (.tmp 78) (.tmp 81) 31 rfl w.heap.size 5 i0 underlying31 Hi.o eU.o dZ.o eX.o (l:=body) (l2:=[]) rfl HLen.o nP.o rfl rfl (HI5.o _) (by omega) dx.o.size ?_;intro dG aG w5 hO3 hG3 _;have jH:=H9 hO3;have mZ:=H9 (dx.o.trans (dW nP.o hG3 dx.o.size));clear hO3 hG3)
               (try simp only [Exit.inBlock,Exit.then]);refine bodyPost_ret (aH rfl _ _ _) rfl ?_;exact fP.of (body++[]) (p+(sz+0)) false 0 dG aG (n+0) _ (by rw [gQ.o];rfl) (by rw [List.length_append,HLen.o];rfl) (by omega) rfl jH.o mZ.o
             · have HI5:=H9 (fun W hW=>HI4.o W hW (some ⟨bb,oo+(p+sz),none⟩) (fun _=>rfl));clear HI4;go_wp2_with fail
               refine nN.o.mono ?_;rintro e w3 ⟨rfl,hw⟩;subst hw;go_wp2_with fail
               refine (HN.o _).mono ?_;rintro e w4 ⟨rfl,hb4⟩;have dx:=H9 (then_ ME.o hb4);have nP:=H9 (qB.o _ hb4)
               clear hb4;go_wp2_with (at_builtin;refine aV rfl (.tmp 78) (.tmp 81) 31 rfl w.heap.size 5 i0 underlying31 Hi.o eU.o dZ.o eX.o (l:=body) (l2:=b.drop (p+sz)) rfl HLen.o nP.o rfl MG.o (HI5.o _ dx.o) (by omega) dx.o.size ?_;intro dG aG w5 hO3 hG3 _;have jH:=H9 hO3;have mZ:=H9 (dx.o.trans (dW nP.o hG3 dx.o.size));clear hO3 hG3)
               (try simp only [Exit.inBlock,Exit.then]);refine bodyPost_ret (aH rfl _ _ _) rfl ?_;exact fP.of (body++b.drop (p+sz)) (p+(sz+(b.drop (p+sz)).length)) false 0 dG aG _ _ (by rw [gQ.o];rfl) (by rw [List.length_append,HLen.o,MG.o]) (by rw [MG.o];omega) rfl jH.o mZ.o
           · have tsh:decide ((b.length:Int) - ((p:Int)+sz)<k)=false:=decide_eq_false (by omega);have e1:(p:Int)+sz≤(p:Int)+sz+k:=by omega
             have e2:(p:Int)+sz+k≤cap:=by omega
             have e3:((p:Int)+sz).toNat=p+sz:=by omega
             have e4:((p:Int)+sz+k).toNat=p+sz+k:=by omega
             have e5:p+sz+k - (p+sz)=k:=by omega
             have e6:¬ cap=p+sz:=by omega
             have e7:(p:Int)+sz+k≤b.length:=by omega
             have hp2:p+sz+k≤b.length:=by omega
             have hdl:((b.drop (p+sz)).take k).length=k:=by rw [List.length_take,List.length_drop];omega
             have HI4:=H9 (fun W (hW:Below w.heap.size w W)=>show aT W (some ⟨bb,oo+(p+sz),none⟩) (cap - (p+sz)) ((b.drop (p+sz)).take k) by
              have:=(HB.o.stay hW).cut (aF:=some ⟨bb,oo+(p+sz),none⟩) (p+sz) (p+sz+k) (by omega) hp2 (fun e=>by simp [Addr.add_lit]);rwa [e5] at this)
             have MG:=H9 hdl;have HLen:=H9 HR.o.len;have h4':¬ 4000<n+(Ck.size (Ln.of (b.drop p)).text).1.toNat:=by rw [NS.o];exact h4
             have hk0':¬ (Ck.size (Ln.of (b.drop p)).text).1.toNat=0:=by rw [NS.o];exact hk0
             have hsh':¬ ((b.drop p).drop (Ln.of (b.drop p)).size).length<(Ck.size (Ln.of (b.drop p)).text).1.toNat:=by rw [NS.o,HS.o,List.length_drop,List.length_drop];omega
             have hdd:((b.drop p).drop (Ln.of (b.drop p)).size).drop (Ck.size (Ln.of (b.drop p)).text).1.toNat=b.drop (p+sz+k):=by rw [NS.o,HS.o,List.drop_drop,List.drop_drop,←Nat.add_assoc]
             have hd1:(b.drop p).drop (Ln.of (b.drop p)).size=b.drop (p+sz):=by rw [HS.o,List.drop_drop]
             have hof:=HR.o.MC;have hle2:=Ln.of_le (b.drop (p+sz+k));have MF:=Ln.oQ (b.drop (p+sz+k));rw [List.length_drop] at hle2 MF;have NM:=H9 HR.o.f_;clear hdl HR;by_cases tC:(Ln.of (b.drop (p+sz+k))).code≠0∨(Ln.of (b.drop (p+sz+k))).ended=false
             · rw [Ck.Wt o8.o FZ.o h4' hk0' hsh' (by rw [hdd];exact tC),hdd,hd1,NS.o,HS.o] at hof;have gQ:=H9 hof;clear hof h4' hk0' hsh' hdd hd1;generalize (b.drop (p+sz)).take k=x at *;by_cases hc2:cap=p+sz+k
               · have HL2:=H9 (fun W hW=>BL.o (p+sz+k) 0 0 (some ⟨bb,oo,none⟩) hp2 (by omega) (by omega) (fun e=>absurd hc2 e) W hW);have hnil:b.drop (p+sz+k)=[]:=List.drop_eq_nil_of_le (by omega);rw [hnil] at HL2 gQ;have e0:Ln.of []=Ln.open_:=rfl;rw [e0] at HL2 gQ;unfold Ln.open_ at HL2 gQ;simp only at HL2 gQ;have e8:b.length - (p+sz+k)=0:=by omega
                 clear tC hle2 MF hnil e0 BL HB;subst hc2;simp only [e5] at HI4;go_wp2_with fail
                 refine nN.o.mono ?_;rintro e w3 ⟨rfl,hw⟩;subst hw;go_wp2_with fail
                 refine (HN.o _).mono ?_;rintro e w4 ⟨rfl,hb4⟩;have dx:=H9 (then_ ME.o hb4);have nP:=H9 (qB.o _ hb4)
                 clear hb4;go_wp2_with (at_builtin;refine aV rfl (.tmp 85) (.tmp 91) 31 rfl w.heap.size 5 i0 underlying31 Hi.o eU.o dZ.o eX.o (l:=body) (l2:=x) rfl HLen.o nP.o rfl MG.o (HI4.o _ dx.o) (by omega) dx.o.size ?_;intro dG aG w5 hO3 hG3 _;have jH:=H9 hO3;have mZ:=H9 (dx.o.trans (dW nP.o hG3 dx.o.size));clear hO3 hG3)
                 refine (HL2.o _ mZ.o).mono ?_;rintro e w6 ⟨rfl,hw⟩;subst hw;go_wp2;(try simp only [Exit.inBlock,Exit.then]);refine bodyPost_ret (aH rfl _ _ _) rfl ?_;exact fP.of (body++x) (p+(sz+k+0)) false 0 dG aG (n+k) _ (by rw [gQ.o];simp [Ck.shift]) (by rw [List.length_append,HLen.o,MG.o]) (by omega) rfl jH.o mZ.o
               · have HL2:=H9 (fun W hW=>BL.o (p+sz+k) (b.length - (p+sz+k)) (cap - (p+sz+k)) (some ⟨bb,oo+(p+sz+k),none⟩) hp2 rfl rfl (fun _=>rfl) W hW);clear BL HB;generalize Ln.of (b.drop (p+sz+k))=L at *;obtain ⟨t2,eu,en,lc⟩:=L;simp only at *;generalize (⟨t2.toArray⟩:ByteArray)=tb2 at *;by_cases hlc:lc=0
                 · subst hlc;have hen:en=false:=by
                    rcases tC with h | h
                    · exact absurd rfl h
                    · exact h
                   subst hen;clear tC;go_wp2_with fail
                   refine nN.o.mono ?_;rintro e w3 ⟨rfl,hw⟩;subst hw;go_wp2_with fail
                   refine (HN.o _).mono ?_;rintro e w4 ⟨rfl,hb4⟩;have dx:=H9 (then_ ME.o hb4);have nP:=H9 (qB.o _ hb4)
                   clear hb4;go_wp2_with (at_builtin;refine aV rfl (.tmp 85) (.tmp 91) 31 rfl w.heap.size 5 i0 underlying31 Hi.o eU.o dZ.o eX.o (l:=body) (l2:=x) rfl HLen.o nP.o rfl MG.o (HI4.o _ dx.o) (by omega) dx.o.size ?_;intro dG aG w5 hO3 hG3 _;have jH:=H9 hO3;have mZ:=H9 (dx.o.trans (dW nP.o hG3 dx.o.size));clear hO3 hG3)
                   refine (HL2.o _ mZ.o).mono ?_;rintro e w6 ⟨rfl,hw⟩;subst hw;go_wp2;(try simp only [Exit.inBlock,Exit.then]);refine bodyPost_ret (aH rfl _ _ _) rfl ?_;exact fP.of (body++x) (p+(sz+k+eu)) false 0 dG aG (n+k) _ (by rw [gQ.o];simp [Ck.shift]) (by rw [List.length_append,HLen.o,MG.o]) (by omega) rfl jH.o mZ.o
                 · have tlc:((lc:Int) != 0)=true:=by rw [bne_iff_ne];omega
                   clear tC;go_wp2_with fail
                   refine nN.o.mono ?_;rintro e w3 ⟨rfl,hw⟩;subst hw;go_wp2_with fail
                   refine (HN.o _).mono ?_;rintro e w4 ⟨rfl,hb4⟩;have dx:=H9 (then_ ME.o hb4);have nP:=H9 (qB.o _ hb4)
                   clear hb4;go_wp2_with (at_builtin;refine aV rfl (.tmp 85) (.tmp 91) 31 rfl w.heap.size 5 i0 underlying31 Hi.o eU.o dZ.o eX.o (l:=body) (l2:=x) rfl HLen.o nP.o rfl MG.o (HI4.o _ dx.o) (by omega) dx.o.size ?_;intro dG aG w5 hO3 hG3 _;have jH:=H9 hO3;have mZ:=H9 (dx.o.trans (dW nP.o hG3 dx.o.size));clear hO3 hG3)
                   refine (HL2.o _ mZ.o).mono ?_;rintro e w6 ⟨rfl,hw⟩;subst hw;go_wp2;(try simp only [Exit.inBlock,Exit.then]);refine bodyPost_ret (aH rfl _ _ _) rfl ?_;exact fP.of (body++x) (p+(sz+k+eu)) false lc dG aG (n+k) _ (by rw [gQ.o];simp [Ck.shift]) (by rw [List.length_append,HLen.o,MG.o]) (by omega) rfl jH.o mZ.o
             · obtain ⟨hlc,hen,hsz2⟩:=EF tC;have hc2:¬ cap=p+sz+k:=by omega
               have HL2:=H9 (fun W hW=>BL.o (p+sz+k) (b.length - (p+sz+k)) (cap - (p+sz+k)) (some ⟨bb,oo+(p+sz+k),none⟩) hp2 rfl rfl (fun _=>rfl) W hW);rw [hlc,hen] at HL2;clear BL HB hlc hen;by_cases htx:(Ln.of (b.drop (p+sz+k))).text=[]
               · have YR:=NM.o;rw [List.length_drop] at YR;obtain ⟨f3,rfl⟩:∃ f3,f=f3+1:=⟨f - 1,by omega⟩;rw [Ck.Wv o8.o FZ.o h4' hk0' hsh' (by rw [hdd];exact tC) (by rw [hdd];exact htx),hdd,hd1,NS.o,HS.o,Ck.ji,List.drop_drop] at hof;rw [htx] at HL2;have gQ:=H9 hof;clear hof h4' hk0' hsh' hdd hd1 tC htx MF YR;generalize (Ln.of (b.drop (p+sz+k))).size=eu at *;generalize (b.drop (p+sz)).take k=x at *;go_wp2_with fail
                 refine nN.o.mono ?_;rintro e w3 ⟨rfl,hw⟩;subst hw;go_wp2_with fail
                 refine (HN.o _).mono ?_;rintro e w4 ⟨rfl,hb4⟩;have dx:=H9 (then_ ME.o hb4);have nP:=H9 (qB.o _ hb4)
                 clear hb4;go_wp2_with (at_builtin;refine aV rfl (.tmp 85) (.tmp 91) 31 rfl w.heap.size 5 i0 underlying31 Hi.o eU.o dZ.o eX.o (l:=body) (l2:=x) rfl HLen.o nP.o rfl MG.o (HI4.o _ dx.o) (by omega) dx.o.size ?_;intro dG aG w5 hO3 hG3 _;have jH:=H9 hO3;have mZ:=H9 (dx.o.trans (dW nP.o hG3 dx.o.size));clear hO3 hG3)
                 refine (HL2.o _ mZ.o).mono ?_;rintro e w6 ⟨rfl,hw⟩;subst hw;go_wp2;go_roundw
                 case rel =>
                  have hff:=NM.o;rw [List.length_drop] at hff;refine ⟨p+(sz+k+eu),n+k,dG,aG,body++x,f3,by omega,by go_num,by go_num,⟨jH.o,by rw [List.length_append,HLen.o,MG.o],by omega,by rw [List.length_drop];omega,?_,mZ.o⟩⟩;have h:=gQ.o;rw [show p+sz+k+eu=p+(sz+k+eu) by omega] at h;exact h
                 case measure=>simp [intOf];omega
               · have ttx:((⟨(Ln.of (b.drop (p+sz+k))).text.toArray⟩:ByteArray).toList==[])=false:=by rw [beq_eq_false_iff_ne,Lib.toList_data];exact htx
                 rw [Ck.Wu o8.o FZ.o h4' hk0' hsh' (by rw [hdd];exact tC) (by rw [hdd];exact htx),hdd,hd1,NS.o,HS.o] at hof;have gQ:=H9 hof;clear hof h4' hk0' hsh' hdd hd1 tC htx MF;generalize (Ln.of (b.drop (p+sz+k))).size=eu at *;generalize (⟨(Ln.of (b.drop (p+sz+k))).text.toArray⟩:ByteArray)=tb2 at *;generalize (b.drop (p+sz)).take k=x at *;go_wp2_with fail
                 refine nN.o.mono ?_;rintro e w3 ⟨rfl,hw⟩;subst hw;go_wp2_with fail
                 refine (HN.o _).mono ?_;rintro e w4 ⟨rfl,hb4⟩;have dx:=H9 (then_ ME.o hb4);have nP:=H9 (qB.o _ hb4)
                 clear hb4;go_wp2_with (at_builtin;refine aV rfl (.tmp 85) (.tmp 91) 31 rfl w.heap.size 5 i0 underlying31 Hi.o eU.o dZ.o eX.o (l:=body) (l2:=x) rfl HLen.o nP.o rfl MG.o (HI4.o _ dx.o) (by omega) dx.o.size ?_;intro dG aG w5 hO3 hG3 _;have jH:=H9 hO3;have mZ:=H9 (dx.o.trans (dW nP.o hG3 dx.o.size));clear hO3 hG3)
                 refine (HL2.o _ mZ.o).mono ?_;rintro e w6 ⟨rfl,hw⟩;subst hw;go_wp2;(try simp only [Exit.inBlock,Exit.then]);refine bodyPost_ret (aH rfl _ _ _) rfl ?_;exact fP.of (body++x) (p+(sz+k+eu)) false 5 dG aG (n+k) _ (by rw [gQ.o];simp [Ck.shift]) (by rw [List.length_append,HLen.o,MG.o]) (by omega) rfl jH.o mZ.o
end Go.Proofs.YtjmndjmhjleabaaGreatDoor