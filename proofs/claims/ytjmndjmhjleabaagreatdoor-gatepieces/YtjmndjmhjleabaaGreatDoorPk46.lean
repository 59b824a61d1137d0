/- Small texts, one behind the other: RqTake, RqHead, RqHeadB, RqFeed. -/
import Derived.Test.YtjmndjmhjleabaaGreatDoorRqFst
import Derived.Test.YtjmndjmhjleabaaGreatDoorRqFld
import Derived.Test.YtjmndjmhjleabaaGreatDoorPk33
import Derived.Test.YtjmndjmhjleabaaGreatDoorPk43
set_option maxHeartbeats 4000000
set_option maxRecDepth 100000
open Go.Proofs.Tryz
namespace Go.Proofs.YtjmndjmhjleabaaGreatDoor
open Go.RowKit
inductive IX (w:World)(S:Nat->Prop)(g:Nat)(s:Rq.St)(t:List UInt8)(e:Ending)(w':World):Prop
 | quiet (s':Rq.St) (he:e=.returned (.int .i64 0)) (hl:Rq.line s t=(s',[])) (hR:bZ w' (av S w) g s') (hT:Turns S w w')
 | bad (c:Nat) (hc:c≠0) (he:e=.returned (.int .i64 (c:Int))) (hl:Rq.line s t=(Rq.dead s,[.fail c])) (lp hp bd:Value) (hP:bH w' g lp hp false bd 0) (hT:Turns S w w')
 | whole (k:Int) (gl gh:Nat) (D:Nat->Prop) (he:e=.returned (.int .i64 0)) (hk:Rq.len s.hd=.inr k) (ht:t=[]) (h1:s.ph=1) (hP:bH w' g (.pointer (some ⟨gl,0,none⟩)) (.pointer (some ⟨gh,0,none⟩)) true .nilIface 0)
  (hL:aJ w' (fun k=>(S k∧k≠g)∧¬D k) gl s.ln) (hH:bX w' (fun k=>(S k∧k≠g)∧D k) gh { s.hd with length:=k }) (hT:Turns S w w')
theorem zw {t:ByteArray}(h:t.data.toList=[]):t=⟨#[]⟩:=by
 have:t.data=#[]:=by
  apply Array.ext';simpa using h
 cases t;simp only at this;rw[this]
theorem Bu {t:ByteArray}(h:t.data.toList≠[]):0<t.size:=by
 have h2:t.data.toList.length=t.size:=by rw[Array.length_toList];rfl
 have:=List.length_pos_iff.2 h;omega
theorem bZ.new {w W:World}{S:Nat->Prop}{g:Nat}{s:Rq.St}(h:bZ w S g s):bZ w (av S W) g s:=h.mono (fun _ _ e=>Or.inl e)
theorem Qy (w:World)(S:Nat->Prop)(g:Nat)(s:Rq.St)(t:ByteArray)(h:bZ w S g s)(hp:s.ph=0)(ht:t.size<=200)(hv:∀b∈t.data.toList,Ch.visible b.toNat=true):
 Calls prog 102 #[.pointer (some ⟨g,0,none⟩),.string t] w fun e w'=>IX w S g s t.data.toList e w':=by
 have HR:=H9 h;obtain⟨hg,lp,hpp,bd,code,hP,hI⟩:=h;cases hI with
 | dead c hc h4=>omega
 | Ec gl gh D h1 L H=>omega
 | at2 gl gb h2 L hb B=>omega
 | at3 gl gb D h3 L B=>omega
 | BU gl h0 L =>
   have c1:=hP.c1;by_cases hn:t.data.toList=[]
   . obtain rfl:=zw hn;have HL:Hid (Rq.line s []=(s,[])):=by unfold Hid Rq.line;rw[if_pos hp,if_pos rfl]
     clear hP L hn;go_enter func102,ntmps102;go_wp2;go_ret;exact .quiet s rfl HL.o HR.o.new (Turns.refl _ _)
   . have hts:=Bu hn;have hemp:t.toList.isEmpty=false:=Ch.gW t hts;have HF:=H9 (MG w g _ _ t hP (by omega) hv);have HL:Hid (Rq.line s t.data.toList=match Rq.first t.data.toList with | .inl c=>(Rq.dead s,[.fail c]) | .inr h=>({ s with ph:=1,hd:=h },[])):=by
      unfold Hid Rq.line;rw[if_pos hp,if_neg hn];cases Rq.first t.data.toList <;> rfl
     have CX:=H9 hP;have Zm:=H9 L;have WO:=H9 hg
     have HNz:Hid (∀c,Rq.first t.data.toList=.inl c->c≠0):=fun c e=>by
      unfold Rq.first at e;split at e
      . split at e
        . injection e with e;omega
        . split at e
          . injection e with e;omega
          . split at e
            . cases e
            . split at e
              . cases e
              . injection e with e;omega
      . injection e with e;omega
     clear hP L hg hn hv;generalize t.data.toList=tl at *;go_enter func102,ntmps102;go_wp2_with fail
     refine HF.o.mono ?_;rintro e w1 (⟨c,rfl,hf,hB⟩ | ⟨hd,gh,rfl,hf,hP1,hH1,hT1⟩)
     . have Ul:=H9 hf;have HB:=H9 hB
       clear hf hB;go_wp2;go_ret;refine .bad c (HNz.o c Ul.o) rfl ?_ _ _ _ (CX.o.stay HB.o) (Turns.of_below HB.o);rw[HL.o,Ul.o]
     . have Ul:=H9 hf;have SH:=H9 hP1;have Yq:=H9 hH1;have HT1:=H9 hT1
       clear hf hP1 hH1 hT1;go_wp2;go_ret;refine .quiet { s with ph:=1,hd:=hd } rfl (by rw[HL.o,Ul.o]) ⟨Or.inl WO.o,_,_,_,_,SH.o,?_⟩ (HT1.o.mono (fun k e=>by rw[e];exact WO.o));refine .Ec gl gh (fun k=>w.heap.size<=k) rfl ?_ ?_
       . refine((Zm.o.mono (S':=fun k=>(av S w k∧k≠g)∧¬w.heap.size<=k) (fun k hk e=>⟨⟨Or.inl e.1,e.2⟩,by omega⟩)).turns HT1.o (fun k e=>e.1.2))
       . refine Yq.o.mono (fun k hk e=>⟨⟨Or.inr e,?_⟩,e⟩);have:=CX.o.lt;omega
theorem Qz (w:World)(S:Nat->Prop)(g:Nat)(s:Rq.St)(t:ByteArray)(h:bZ w S g s)(hp:s.ph=1)(hG:Rq.jE s.hd)(ht:t.size<=200):
 Calls prog 102 #[.pointer (some ⟨g,0,none⟩),.string t] w fun e w'=>IX w S g s t.data.toList e w':=by
 obtain⟨hg,lp,hpp,bd,code,hP,hI⟩:=h;cases hI with
 | dead c hc h4=>omega
 | BU gl h0 L=>omega
 | at2 gl gb h2 L hb B=>omega
 | at3 gl gb D h3 L B=>omega
 | Ec gl gh D h1 L H =>
   have c1:=hP.c1;have M5:¬((fun k=>(S k∧k≠g)∧D k) g):=fun e=>e.1.2 rfl;have CX:=H9 hP;have Zm:=H9 L;have WO:=H9 hg;have Qh:=H9 H
   by_cases hn:t.data.toList=[]
   . obtain rfl:=zw hn;have HE:=H9 (SL w g gh _ _ _ s.hd hP H M5 hG);have HL:Hid (∀c,Rq.len s.hd=.inl c->Rq.line s []=(Rq.dead s,[.fail c])):=fun c e=>by
      unfold Rq.line;rw[if_neg (by omega),if_pos rfl,e]
     clear hP L hg hn H M5;go_enter func102,ntmps102;go_wp2_with fail
     refine HE.o.mono ?_;rintro e w1 (⟨c,hc,rfl,hf,hP1,hT1⟩ | ⟨k,rfl,hf,hP1,hH1,hT1⟩)
     . have Ul:=H9 hf;have SH:=H9 hP1;have HT1:=H9 hT1;have FR:=H9 hc
       clear hf hP1 hT1 hc;go_wp2;go_ret;exact .bad c FR.o rfl (HL.o c Ul.o) _ _ _ SH.o (HT1.o.mono (fun k e=>by
        rcases e with e | e
        . exact e.1.1
        . rw[e];exact WO.o))
     . have Ul:=H9 hf;have SH:=H9 hP1;have HT1:=H9 hT1;have Yq:=H9 hH1
       clear hf hP1 hT1 hH1;go_wp2;go_ret;refine .whole k gl gh D rfl Ul.o rfl hp SH.o ?_ Yq.o (HT1.o.mono (fun k e=>by
        rcases e with e | e
        . exact e.1.1
        . rw[e];exact WO.o))
       exact Zm.o.turns HT1.o (fun k e e2=>by
        rcases e2 with e2 | e2
        . exact e.2 e2.2
        . exact e.1.2 e2)
   . have hts:=Bu hn;have hemp:t.toList.isEmpty=false:=Ch.gW t hts;have qC:Rq.line s t.data.toList=if s.hd.fields.length=16 then (Rq.dead s,[.fail 8]) else if (Fd.of t.data.toList).code≠0 then (Rq.dead s,[.fail (Fd.of t.data.toList).code]) else ({ s with hd:={ s.hd with fields:=s.hd.fields++[((Fd.of t.data.toList).name,(Fd.of t.data.toList).value)] } },[]):=by
      unfold Rq.line;rw[if_neg (by omega),if_neg hn]
     by_cases h16:s.hd.fields.length=16
     . have HF:=H9 (IQ w g gh _ _ _ s.hd t hP H h16);rw[if_pos h16] at qC;have HL:=H9 qC;generalize t.data.toList=tl at *;clear hP L hg hn H M5 qC h16;go_enter func102,ntmps102;go_wp2_with fail
       refine HF.o.mono ?_;rintro e w1 ⟨rfl,hw⟩;subst hw;go_wp2;go_ret;exact .bad 8 (by omega) rfl HL.o _ _ _ CX.o (Turns.refl _ _)
     . rw[if_neg h16] at qC;by_cases hc:(Fd.of t.data.toList).code=0
       . have HF:=H9 (Qu w g gh _ _ _ s.hd t hP H M5 (by have:=hG.many;omega) (by omega) hc);rw[if_neg (fun e=>e hc)] at qC;have HL:=H9 qC;generalize Fd.of t.data.toList=fd at *;generalize t.data.toList=tl at *;clear hP L hg hn H M5 qC h16 hc;go_enter func102,ntmps102;go_wp2_with fail
         refine HF.o.mono ?_;rintro e w1 ⟨rfl,hP1,hH1,hT1⟩;have SH:=H9 hP1;have Yq:=H9 hH1;have HT1:=H9 hT1
         clear hP1 hH1 hT1;go_wp2;go_ret;refine .quiet _ rfl HL.o ⟨Or.inl WO.o,_,_,_,_,SH.o,?_⟩ (HT1.o.mono (fun k e=>e.1.1));refine .Ec gl gh (fun k=>D k∨w.heap.size<=k) hp ?_ ?_
         . refine((Zm.o.mono (S':=fun k=>((av S w k∧k≠g)∧¬(D k∨w.heap.size<=k))) (fun k hk e=>⟨⟨Or.inl e.1.1,e.1.2⟩,fun e2=>by
            rcases e2 with e2 | e2
            . exact e.2 e2
            . omega⟩)).turns HT1.o (fun k e e2=>e.2 (Or.inl e2.2)))
         . refine Yq.o.mono (fun k hk e=>?_);rcases e with e | e
           . exact⟨⟨Or.inl e.1.1,e.1.2⟩,Or.inl e.2⟩
           . exact⟨⟨Or.inr e,by have:=CX.o.lt;omega⟩,Or.inr e⟩
       . have HF:=H9 (MH w g gh _ _ _ s.hd t hP H h16 (by omega) hc);rw[if_pos hc] at qC;have HL:=H9 qC;have FR:=H9 hc
         generalize (Fd.of t.data.toList).code=cc at *;generalize t.data.toList=tl at *;clear hP L hg hn H M5 qC h16 hc;go_enter func102,ntmps102;go_wp2_with fail
         refine HF.o.mono ?_;rintro e w1 ⟨rfl,hB⟩;have HB:=H9 hB;clear hB;go_wp2;go_ret;exact .bad cc FR.o rfl HL.o _ _ _ (CX.o.stay HB.o) (Turns.of_below HB.o)
structure SN (w:World)(S:Nat->Prop)(g gl:Nat)(s:Rq.St)(c:UInt8):Prop where
 c0:w.cell? ⟨g,0,none⟩=some (.pointer (some ⟨gl,0,none⟩))
 fed:Calls prog 101 #[.pointer (some ⟨gl,0,none⟩),.int .u8 c.toNat] w fun e w'=>e=.returned (Ln.fed s.ln c)∧bZ w' (av (fun k=>S k∧k<w.heap.size) w) g { s with ln:=Ln.next s.ln c }∧Turns (fun k=>(S k∧k<w.heap.size)∧k≠g) w w'
theorem zx (w:World)(S:Nat->Prop)(g:Nat)(s:Rq.St)(c:UInt8)(h:bZ w S g s)(hG:Rq.Good s)(hp:s.ph=0∨s.ph=1):∃gl,SN w S g gl s c:=by
 obtain⟨hg,lp,hpp,bd,code,hP,hI⟩:=h;have sS:=hP.lt;cases hI with
 | dead c hc h4=>omega
 | at2 gl gb h2 L hb B=>omega
 | at3 gl gb D h3 L B=>omega
 | BU gl h0 L =>
   refine⟨gl,hP.c0,(jq w (fun k=>(S k∧k<w.heap.size)∧k≠g) gl s.ln c (L.mono (fun k hk e=>⟨⟨e.1,hk⟩,e.2⟩)) hG.ln.short).mono ?_⟩;rintro e w' ⟨he,hL,hT⟩;refine⟨he,⟨Or.inl ⟨hg,sS⟩,_,_,_,_,hP.turns hT (fun e=>e.2 rfl),.BU gl h0 (hL.mono (fun k _ e=>?_))⟩,hT⟩;rcases e with e | e
   . exact⟨Or.inl e.1,e.2⟩
   . exact⟨Or.inr e,by omega⟩
 | Ec gl gh D h1 L H =>
   refine⟨gl,hP.c0,(jq w (fun k=>((S k∧k<w.heap.size)∧k≠g)∧¬D k) gl s.ln c (L.mono (fun k hk e=>⟨⟨⟨e.1.1,hk⟩,e.1.2⟩,e.2⟩)) hG.ln.short).mono ?_⟩;rintro e w' ⟨he,hL,hT⟩;refine⟨he,⟨Or.inl ⟨hg,sS⟩,_,_,_,_,hP.turns hT (fun e=>e.1.2 rfl),.Ec gl gh (fun k=>D k∧k<w.heap.size) h1 (hL.mono (fun k _ e=>?_)) (((H.mono (S':=fun k=>(av (fun k=>S k∧k<w.heap.size) w k∧k≠g)∧D k∧k<w.heap.size) (fun k hk e=>⟨⟨Or.inl ⟨e.1.1,hk⟩,e.1.2⟩,e.2,hk⟩)).turns hT (fun k e e2=>e2.2 e.2.1)))⟩,hT.mono (fun k e=>e.1)⟩;rcases e with e | e
   . exact⟨⟨Or.inl e.1.1,e.1.2⟩,fun e2=>e.2 e2.1⟩
   . exact⟨⟨Or.inr e,by omega⟩,fun e2=>by have:=e2.2;omega⟩
theorem Aa (w:World)(S So:Nat->Prop)(g:Nat)(s:Rq.St)(c:UInt8)(ao:Option Addr)(cap n:Nat)(es:List Rq.Ev)(h:bZ w S g s)(hG:Rq.Good s)(hp:s.ph=0∨s.ph=1)(hc:(Ln.next s.ln c).code≠0)(hO:iG w So ao cap es)(hd:∀k,S k->¬So k)(hn:es.length=n)(hl:n<=90000)(hj:Rq.Joined es)(hf:Rq.Full es)(hz:Rq.bV es<=90000):
 Calls prog 63 #[.pointer (some ⟨g,0,none⟩),.slice ao n cap,.int .u8 c.toNat] w fun e w'=>gZ w S So g s c es e w':=by
 obtain⟨gl,QA⟩:=zx w S g s c h hG hp;have c0:=QA.c0;have HF:=H9 QA.fed;have Um:=Ln.Ah hc;have HN:Hid (Rq.next s c=(Rq.dead s,[.fail (Ln.next s.ln c).code])):=by
  unfold Hid Rq.next;rw[if_neg (by omega),if_neg (by omega),if_neg (by omega),if_pos hc]
 unfold Ln.fed at HF;rw[Um] at HF;have HX:Hid (S g∧g<w.heap.size∧∀k,S k->¬So k):=⟨h.1,h.lt,hd⟩;have Nl:=H9 (hO.mono (S':=fun k=>So k∧k<w.heap.size) (fun k hk e=>⟨e,hk⟩));have HE:=H9 (And.intro hn (And.intro hl (And.intro hj (And.intro hf hz))));have tc:(((Ln.next s.ln c).code:Int) != 0)=true:=by rw[bne_iff_ne];omega
 have FR:=H9 hc;clear h hG QA hO hd hn hj hf hz hc Um;generalize (⟨(Ln.text s.ln c).toArray⟩:ByteArray)=tx at *;generalize (Ln.next s.ln c)=YS at *;generalize YS.code=cc at *;go_enter func63,ntmps63;go_wp2_with fail
 refine HF.o.mono ?_;rintro e w1 ⟨rfl,mH,hT1⟩;have HR1:=H9 mH;have HT1:=H9 hT1
 clear mH hT1;go_wp2_with fail
 obtain⟨hn,hl,hj,hf,hz⟩:=HE.o;obtain⟨hg,sS,hd⟩:=HX.o;obtain⟨_,lp1,hp1,bd1,Un,hP1,_⟩:=HR1.o;refine(zk w1 g _ _ _ _ _ (fun k=>So k∧k<w.heap.size) ao cap n cc es hP1 (Nl.o.turns HT1.o (fun k e e2=>hd k e2.1.1 e.1)) (fun e=>hd g hg e.1) hn (by omega) hj hf (by omega)).mono ?_;rintro e w2 ⟨dN,cap2,n2,rfl,hn2,hO2,hP2,dx⟩;have FQ:=H9 hn2;have Ca:=H9 hO2;have mG:=H9 hP2;have HT2:=H9 dx
 clear hn hl hj hf hz hd hg sS hn2 hO2 hP2 dx hP1;go_wp2;go_ret;obtain⟨hg,sS,hd⟩:=HX.o;have hs1:=HT1.o.size;refine .mk dN cap2 n2 (fun k=>k=g) _ rfl (by rw[HN.o];exact FQ.o) ?_ (by rw[HN.o];exact Ca.o) ?_ (fun k e=>by rw[e];exact Or.inl hg) ?_ ?_
 . rw[HN.o];exact⟨rfl,_,_,_,_,mG.o,.dead cc FR.o rfl⟩
 . intro k e e2;subst e;rcases e2 with e2 | e2
   . exact hd k hg e2.1
   . omega
 . intro k e;rcases e with e | e
   . exact Or.inr (Or.inl e.1)
   . exact Or.inr (Or.inr (by omega))
 . refine(HT1.o.mono (fun k e=>Or.inl e.1.1)).trans (HT2.o.mono (fun k e=>?_)) (fun _ e _=>e);rcases e with e | e
   . exact Or.inr e.1
   . rw[e];exact Or.inl hg
theorem Ab (w:World)(S So:Nat->Prop)(g:Nat)(s:Rq.St)(c:UInt8)(ao:Option Addr)(cap n:Nat)(es:List Rq.Ev)(h:bZ w S g s)(hG:Rq.Good s)(hp:s.ph=0∨s.ph=1)(hc:(Ln.next s.ln c).code=0)(he:Ln.ends s.ln c=false)(hO:iG w So ao cap es)(hd:∀k,S k->¬So k)(hn:es.length=n)(hj:Rq.Joined es):
 Calls prog 63 #[.pointer (some ⟨g,0,none⟩),.slice ao n cap,.int .u8 c.toNat] w fun e w'=>gZ w S So g s c es e w':=by
 obtain⟨gl,QA⟩:=zx w S g s c h hG hp;have c0:=QA.c0;have HF:=H9 QA.fed;have HN:Hid (Rq.next s c=({ s with ln:=Ln.next s.ln c },[])):=by
  unfold Hid Rq.next;rw[if_neg (by omega),if_neg (by omega),if_neg (by omega),if_neg (fun e=>e hc),if_neg (by rw[he];simp)]
 unfold Ln.fed at HF;rw[he,hc] at HF;have HX:Hid (S g∧g<w.heap.size∧∀k,S k->¬So k):=⟨h.1,h.lt,hd⟩;have Nl:=H9 (hO.mono (S':=fun k=>So k∧k<w.heap.size) (fun k hk e=>⟨e,hk⟩));have HE:=H9 (And.intro hn hj);clear h hG QA hO hd hn hj hc he;generalize (⟨(Ln.text s.ln c).toArray⟩:ByteArray)=tx at *;go_enter func63,ntmps63;go_wp2_with fail
 refine HF.o.mono ?_;rintro e w1 ⟨rfl,mH,hT1⟩;have HR1:=H9 mH;have HT1:=H9 hT1
 have c2:w1.cell? ⟨g,2,none⟩=some (.bool false):=by obtain⟨_,lp1,hp1,bd1,Un,hP1,_⟩:=mH;exact hP1.c2
 clear mH hT1;go_wp2;go_ret;obtain⟨hn,hj⟩:=HE.o;obtain⟨hg,sS,hd⟩:=HX.o;have hs1:=HT1.o.size;have Uj:Rq.join (es++(Rq.next s c).2)=es:=by rw[HN.o,List.append_nil];exact Rq.bO es hj
 refine .mk ao cap n _ (fun k=>So k∧k<w.heap.size) rfl (by rw[Uj];exact hn.symm) (by rw[HN.o];exact HR1.o) (by rw[Uj];exact Nl.o.turns HT1.o (fun k e e2=>hd k e2.1.1 e.1)) ?_ ?_ (fun k e=>Or.inr (Or.inl e.1)) (HT1.o.mono (fun k e=>Or.inl e.1.1))
 . intro k e e2;rcases e with e | e
   . exact hd k e.1 e2.1
   . omega
 . intro k e;rcases e with e | e
   . exact Or.inl e.1
   . exact Or.inr e
structure QB (w:World)(S So:Nat->Prop)(g:Nat)(ao:Option Addr)(cap n:Nat)(es:List Rq.Ev):Prop where
 gm:S g
 lt:g<w.heap.size
 apart:∀k,S k->¬So k
 evs:iG w (fun k=>So k∧k<w.heap.size) ao cap es
 len:es.length=n
 most:n<=90000
 joined:Rq.Joined es
 full:Rq.Full es
 sum:Rq.bV es<=90000
theorem MP {w3 w4:World}{T:Nat->Prop}{v0 v1 v2 v3:Value}{k:Int}(hT:Turns T (w3.alloc (.cells #[v0,v1,v2,v3,.int .i64 k] 68)) w4)(hn:¬T w3.heap.size):w4.cell? ⟨w3.heap.size,4,none⟩=some (.int .i64 k):=by
 have hr:=hT.row (heap_alloc_new w3 (.cells #[v0,v1,v2,v3,.int .i64 k] 68)) hn;exact cell_of_row w4 w3.heap.size 4 _ _ _ hr
theorem CR (w:World)(S So:Nat->Prop)(g:Nat)(s:Rq.St)(c:UInt8)(ao:Option Addr)(cap n:Nat)(es:List Rq.Ev)(h:bZ w S g s)(hG:Rq.Good s)(hp:s.ph=0∨s.ph=1)(he:Ln.ends s.ln c=true)(hO:iG w So ao cap es)(hd:∀k,S k->¬So k)(hn:es.length=n)(hl:n<=90000)(hj:Rq.Joined es)(hf:Rq.Full es)(hz:Rq.bV es<=90000):
 Calls prog 63 #[.pointer (some ⟨g,0,none⟩),.slice ao n cap,.int .u8 c.toNat] w fun e w'=>gZ w S So g s c es e w':=by
 obtain⟨gl,QA⟩:=zx w S g s c h hG hp;have c0:=QA.c0;have HF:=H9 QA.fed;obtain⟨e1,e2⟩:=Ln.D9 he;have hc:(Ln.next s.ln c).code=0:=by rw[e1];rfl
 have hN:Rq.next s c=Rq.line { s with ln:=Ln.start } (Ln.text s.ln c):=by
  unfold Rq.next;rw[if_neg (by omega),if_neg (by omega),if_neg (by omega),if_neg (fun e=>e hc),if_pos he]
 unfold Ln.fed at HF;rw[he,hc,e1] at HF;have hsh:=Rq.mU (c:=c) hG.ln;have HX:Hid (QB w S So g ao cap n es):=⟨h.1,h.lt,hd,hO.mono (fun k hk e=>⟨e,hk⟩),hn,hl,hj,hf,hz⟩;have hHG:s.ph=1->Rq.jE s.hd:=fun e=>(hG.hd e).1;have pQ:Hid (∀w1,bZ w1 (av (fun k=>S k∧k<w.heap.size) w) g { s with ln:=Ln.start }->Calls prog 102 #[.pointer (some ⟨g,0,none⟩),.string ⟨(Ln.text s.ln c).toArray⟩] w1 fun e w'=>IX w1 (av (fun k=>S k∧k<w.heap.size) w) g { s with ln:=Ln.start } (Ln.text s.ln c) e w'):=fun w1 hR=>by
  have hsz:(⟨(Ln.text s.ln c).toArray⟩:ByteArray).size<=200:=by show(Ln.text s.ln c).toArray.size<=200;rw[List.size_toArray];exact hsh.1
  rcases hp with hp | hp
  . exact Qy w1 _ g _ ⟨(Ln.text s.ln c).toArray⟩ hR hp hsz hsh.2
  . exact Qz w1 _ g _ ⟨(Ln.text s.ln c).toArray⟩ hR hp (hHG hp) hsz
 have HN:=H9 hN;clear h hG QA hO hd hn hj hf hz hc he e1 e2 hsh hHG hN hl;generalize (⟨(Ln.text s.ln c).toArray⟩:ByteArray)=tx at *;generalize Ln.text s.ln c=tt at *;go_enter func63,ntmps63;go_wp2_with fail
 refine HF.o.mono ?_;rintro e w1 ⟨rfl,mH,hT1⟩;have HR1:=H9 mH;have HT1:=H9 hT1
 clear mH hT1;go_wp2_with fail
 refine(pQ.o w1 HR1.o).mono ?_;rintro e w2 (⟨s',rfl,hl2,hR2,dx⟩ | ⟨cc,hcc,rfl,hl2,lp2,hp2,bd2,hP2,dx⟩ | ⟨k,gl2,gh,D,rfl,hk,Zk,Yr,hP2,hL2,hH2,dx⟩)
 . have HL:=H9 hl2;have HR2:=H9 hR2;have HT2:=H9 dx
   have c2:w2.cell? ⟨g,2,none⟩=some (.bool false):=by obtain⟨_,lp1,hp1,bd1,Un,hP1,_⟩:=hR2;exact hP1.c2
   clear hl2 hR2 dx;go_wp2;go_ret;have hX:=HX.o;have hs1:=HT1.o.size;have hs2:=HT2.o.size;have hn2:(Rq.next s c).1=s'∧(Rq.next s c).2=[]:=by rw[HN.o,HL.o];exact⟨rfl,rfl⟩
   have Uj:Rq.join (es++(Rq.next s c).2)=es:=by rw[hn2.2,List.append_nil];exact Rq.bO es hX.joined
   have hE2:=(hX.evs.turns HT1.o (fun k e e2=>hX.apart k e2.1.1 e.1)).turns HT2.o (fun k e e2=>by
    rcases e2 with e2 | e2
    . exact hX.apart k e2.1 e.1
    . have:=e.2;omega)
   refine .mk ao cap n _ (fun k=>So k∧k<w.heap.size) rfl (by rw[Uj];exact hX.len.symm) (by rw[hn2.1];exact HR2.o) (by rw[Uj];exact hE2) ?_ ?_ (fun k e=>Or.inr (Or.inl e.1)) ?_
   . intro k e e2;rcases e with (e | e) | e
     . exact hX.apart k e.1 e2.1
     . omega
     . omega
   . intro k e;rcases e with (e | e) | e
     . exact Or.inl e.1
     . exact Or.inr e
     . exact Or.inr (by omega)
   . refine(HT1.o.mono (fun k e=>Or.inl e.1.1)).trans (HT2.o.mono (S':=fun k=>(S k∨So k)∨w.heap.size<=k) (fun k e=>?_)) (fun k e hk=>?_)
     . rcases e with e | e
       . exact Or.inl (Or.inl e.1)
       . exact Or.inr e
     . rcases e with e | e
       . exact e
       . omega
 . have HL:=H9 hl2;have mG:=H9 hP2;have HT2:=H9 dx;have FR:=H9 hcc
   have tc:((cc:Int) != 0)=true:=by rw[bne_iff_ne];omega
   clear hl2 hP2 dx hcc;go_wp2_with fail
   have hX:=HX.o;have hs1:=HT1.o.size;have hE2:=(hX.evs.turns HT1.o (fun k e e2=>hX.apart k e2.1.1 e.1)).turns HT2.o (fun k e e2=>by
    rcases e2 with e2 | e2
    . exact hX.apart k e2.1 e.1
    . have:=e.2;omega)
   refine(zk w2 g _ _ _ _ _ (fun k=>So k∧k<w.heap.size) ao cap n cc es mG.o hE2 (fun e=>hX.apart g hX.gm e.1) hX.len (by have:=hX.most;omega) hX.joined hX.full (by have:=hX.sum;omega)).mono ?_;rintro e w3 ⟨fu,aI,n3,rfl,WQ,hO3,hP3,jw⟩;have HN3:=H9 WQ;have mF:=H9 hO3;have HP3:=H9 hP3;have HT3:=H9 jw
   clear hX hE2 WQ hO3 hP3 jw hs1;go_wp2;go_ret;have hX:=HX.o;have hs1:=HT1.o.size;have hs2:=HT2.o.size;have hn2:(Rq.next s c).1.ph=4∧(Rq.next s c).2=[.fail cc]:=by rw[HN.o,HL.o];exact⟨rfl,rfl⟩
   refine .mk fu aI n3 (fun k=>k=g) _ rfl (by rw[hn2.2];exact HN3.o) ⟨rfl,_,_,_,_,HP3.o,.dead cc FR.o hn2.1⟩ (by rw[hn2.2];exact mF.o) ?_ (fun k e=>by rw[e];exact Or.inl hX.gm) ?_ ?_
   . intro k e e2;subst e;have:=hX.lt;rcases e2 with e2 | e2
     . exact hX.apart k hX.gm e2.1
     . omega
   . intro k e;rcases e with e | e
     . exact Or.inr (Or.inl e.1)
     . exact Or.inr (Or.inr (by omega))
   . refine(HT1.o.mono (fun k e=>Or.inl e.1.1)).trans ((HT2.o.mono (S':=fun k=>(S k∨So k)∨w.heap.size<=k) (fun k e=>?_)).trans (HT3.o.mono (fun k e=>?_)) (fun _ e _=>e)) (fun k e hk=>?_)
     . rcases e with e | e
       . exact Or.inl (Or.inl e.1)
       . exact Or.inr e
     . rcases e with e | e
       . exact Or.inl (Or.inr e.1)
       . rw[e];exact Or.inl (Or.inl hX.gm)
     . rcases e with e | e
       . exact e
       . omega
 . have mG:=H9 hP2;have HL2:=H9 hL2;have HT2:=H9 dx;have HK:=H9 hk;have HTt:=H9 Zk;have Z9:=H9 Yr
   have c2:=hP2.c2;have wO:=H9 (Qr w2 g gh _ _ _ _ hP2 hH2 (fun e=>e.1.2 rfl));have hkr:=Rq.Az hk;clear hP2 hL2 dx hk Zk Yr hH2;go_wp2_with fail
   refine wO.o.mono ?_;rintro e w3 ⟨fo,ak,rfl,hP3,hV3,jw⟩;have HP3:=H9 hP3;have HV3:=H9 hV3;have HT3:=H9 jw
   clear hP3 hV3 jw;go_wp2_with fail
   have hX:=HX.o;have hs1:=HT1.o.size;have hs2:=HT2.o.size;have hs3:=HT3.o.size;have hlt:=hX.lt;have hA3:Below w3.heap.size w3 (w3.alloc (.cells #[.string ⟨s.hd.method.toArray⟩,.string ⟨s.hd.target.toArray⟩,.int .i64 (s.hd.minor:Int),.slice fo s.hd.fields.length ak,.int .i64 k] 68)):=(Below.refl _ _).alloc (Nat.le_refl _) _;have hzA:(w3.alloc (.cells #[.string ⟨s.hd.method.toArray⟩,.string ⟨s.hd.target.toArray⟩,.int .i64 (s.hd.minor:Int),.slice fo s.hd.fields.length ak,.int .i64 k] 68)).heap.size=w3.heap.size+1:=by simp
   have Yl:=((((hX.evs.turns HT1.o (fun k e e2=>hX.apart k e2.1.1 e.1)).turns HT2.o (fun k e e2=>by
    rcases e2 with e2 | e2
    . exact hX.apart k e2.1 e.1
    . have:=e.2;omega)).turns HT3.o (fun k e e2=>hX.apart g hX.gm (e2▸e.1))).stay hA3)
   have QZ:=(HV3.o.mono (S':=fun k=>((av (fun k=>S k∧k<w.heap.size) w k∧k≠g)∧D k)∧k<w3.heap.size) (fun k hk e=>⟨e,hk⟩)).turns (Turns.of_below (S:=fun _=>False) hA3) (fun _ _ e=>e);refine(Qp _ (fun k=>So k∧k<w.heap.size) (fun k=>((av (fun k=>S k∧k<w.heap.size) w k∧k≠g)∧D k)∧k<w3.heap.size) ao fo cap n ak s.hd.fields.length { s.hd with length:=k } es Yl QZ rfl (fun k e e2=>?_) hX.len (by have:=hX.most;omega) hX.joined hX.full (by have:=hX.sum;omega)).mono ?_
   . rcases e2.1.1.1 with e3 | e3
     . exact hX.apart k e3.1 e.1
     . have:=e.2;omega
   rintro e w4 ⟨pX,cap4,n4,rfl,IG,hO4,wP⟩;have hs4:=wP.size;have c4:=MP wP (fun e=>by have:=e.2;omega);have hadd:=added hX.len IG (fun a e=>by cases e) hX.full;have Ui:=(HP3.o.stay hA3).turns wP (fun e=>hX.apart g hX.gm e.1);have hL4:=(((HL2.o.mono (S':=fun k=>((av (fun k=>S k∧k<w.heap.size) w k∧k≠g)∧¬D k)∧k<w2.heap.size) (fun k hk e=>⟨e,hk⟩)).turns HT3.o (fun k e=>e.1.1.2)).turns (Turns.of_below (S:=fun _=>False) hA3) (fun _ _ e=>e)).turns wP (fun k e e2=>by
    rcases e.1.1.1 with e3 | e3
    . exact hX.apart k e3.1 e2.1
    . have:=e2.2;omega)
   have Yt:=hO4.mono (S':=fun k=>((So k∧k<w.heap.size)∨(((av (fun k=>S k∧k<w.heap.size) w k∧k≠g)∧D k)∧k<w3.heap.size)∨w3.heap.size+1<=k)∧k<w4.heap.size) (fun k hk e=>⟨by rw[hzA] at e;exact e,hk⟩);have Yu:Turns (fun k=>(S k∨So k)∨w.heap.size<=k) w w4:=by
    refine(HT1.o.mono (fun k e=>Or.inl (Or.inl e.1.1))).trans ((HT2.o.mono (fun k e=>?_)).trans ((HT3.o.mono (fun k e=>by rw[e];exact Or.inl (Or.inl hX.gm))).trans ((Turns.of_below hA3).trans (wP.mono (fun k e=>Or.inl (Or.inr e.1))) (fun _ e _=>e)) (fun _ e _=>e)) (fun _ e _=>e)) (fun _ e _=>e);rcases e with e | e
    . exact Or.inl (Or.inl e.1)
    . exact Or.inr e
   have Yv:Rq.next s c=if k=0 then ({ s with ln:=Ln.start,ph:=0 },[.head { s.hd with length:=k },.fin]) else if 0<k then ({ s with ln:=Ln.start,ph:=2,left:=k.toNat },[.head { s.hd with length:=k }]) else ({ s with ln:=Ln.start,ph:=3,ck:=Ck.start },[.head { s.hd with length:=k }]):=by
    have hk':Rq.len s.hd=.inr k:=HK.o;have hp1:s.ph=1:=Z9.o;rw[HN.o,HTt.o];unfold Rq.line;rw[if_neg (by show ¬s.ph=0;omega),if_pos rfl];simp only[hk']
   have Vd:w3.heap.size+1<=w4.heap.size:=by rw[<-hzA];exact hs4
   have HP4:=H9 Ui;have HL4:=H9 hL4;have zG:=H9 Yt;have VY:=H9 Yu;have LW:=H9 hadd;have VR:=H9 IG;have Ht:=H9 Yv
   have wm:Hid (w.heap.size<=w1.heap.size∧w1.heap.size<=w2.heap.size∧w2.heap.size<=w3.heap.size∧w3.heap.size+1<=w4.heap.size):=⟨hs1,hs2,hs3,Vd⟩;have p3:=Ui.c3;have pf3:=Ui.fz 3;clear hX hs1 hs2 hs3 hs4 hlt hA3 hzA Yl QZ IG hO4 wP hadd Ui hL4 Yt Yu Yv Vd c0 c2;have qX:Hid (∀k,((((av (fun k=>S k∧k<w.heap.size) w k∧k≠g)∧¬D k)∧k<w2.heap.size)∨k=g)->¬(((So k∧k<w.heap.size)∨(((av (fun k=>S k∧k<w.heap.size) w k∧k≠g)∧D k)∧k<w3.heap.size)∨w3.heap.size+1<=k)∧k<w4.heap.size)):=fun k e e2=>by
    have hX:=HX.o;have hlt:=hX.lt;obtain⟨s1,s2,s3,s4⟩:=wm.o;rcases e with e | e
    . rcases e2.1 with e2 | e2 | e2
      . rcases e.1.1.1 with e3 | e3
        . exact hX.apart k e3.1 e2.1
        . have:=e2.2;omega
      . exact e.1.2 e2.1.2
      . have:=e.2;omega
    . subst e;rcases e2.1 with e2 | e2 | e2
      . exact hX.apart k hX.gm e2.1
      . exact e2.1.1.2 rfl
      . omega
   have VZ:Hid (∀k,((((av (fun k=>S k∧k<w.heap.size) w k∧k≠g)∧¬D k)∧k<w2.heap.size)∨k=g)->S k∨w.heap.size<=k):=fun k e=>by
    rcases e with e | e
    . rcases e.1.1.1 with e3 | e3
      . exact Or.inl e3.1
      . exact Or.inr e3
    . rw[e];exact Or.inl HX.o.gm
   have SQ:Hid (∀k,(((So k∧k<w.heap.size)∨(((av (fun k=>S k∧k<w.heap.size) w k∧k≠g)∧D k)∧k<w3.heap.size)∨w3.heap.size+1<=k)∧k<w4.heap.size)->S k∨So k∨w.heap.size<=k):=fun k e=>by
    obtain⟨s1,s2,s3,s4⟩:=wm.o;rcases e.1 with e | e | e
    . exact Or.inr (Or.inl e.1)
    . rcases e.1.1.1 with e3 | e3
      . exact Or.inl e3.1
      . exact Or.inr (Or.inr e3)
    . exact Or.inr (Or.inr (by omega))
   by_cases hk0:k=0
   . subst hk0;go_wp2_with fail
     obtain⟨a1,a2,a3,a4⟩:=LW.o;refine(CK w4 _ pX cap4 n4 _ zG.o VR.o.symm (by have:=HX.o.most;omega) a4 a3 (by have:=HX.o.sum;omega)).mono ?_;rintro e w5 ⟨vW,cap5,n5,rfl,Nn,yH,nD⟩;have SS:=H9 Nn;have zI:=H9 yH;have PW:=H9 nD
     clear Nn yH nD a1 a2 a3 a4;go_wp2;go_ret;have hN:=Ht.o;first | rw[if_pos rfl] at hN | rw[if_pos trivial] at hN | skip
     obtain⟨s1,s2,s3,s4⟩:=wm.o;have hj2:Rq.join (Rq.join (es++[.head { s.hd with length:=0 }])++[.fin])=Rq.join (es++(Rq.next s c).2):=by rw[hN];exact Rq.DF es [_] [.fin]
     refine .mk vW cap5 n5 (fun k=>(((av (fun k=>S k∧k<w.heap.size) w k∧k≠g)∧¬D k)∧k<w2.heap.size)∨k=g) _ rfl (by rw[<-hj2];exact SS.o) ?_ (by rw[<-hj2];exact zI.o) ?_ VZ.o ?_ ?_
     . rw[hN];refine⟨Or.inr rfl,_,_,_,_,HP4.o.turns PW.o (fun e=>qX.o g (Or.inr rfl) e),.BU gl2 rfl ((HL4.o.turns PW.o (fun k e e2=>qX.o k (Or.inl e) e2)).mono (fun k _ e=>⟨Or.inl e,e.1.1.2⟩))⟩
     . intro k e e2;rcases e2 with e2 | e2 | e2
       . exact qX.o k e e2
       . exact e2
       . rcases e with e | e
         . have:=e.2;omega
         . have:=HX.o.lt;omega
     . intro k e;rcases e with e | e | e
       . exact SQ.o k e
       . exact e.elim
       . exact Or.inr (Or.inr (by omega))
     . have h:=VY.o.trans (PW.o.mono (S':=fun k=>(S k∨So k)∨w.heap.size<=k) (fun k e=>by
        rcases SQ.o k e with e | e | e
        . exact Or.inl (Or.inl e)
        . exact Or.inl (Or.inr e)
        . exact Or.inr e)) (fun _ e _=>e)
       exact⟨h.os,h.tape,h.output,h.size,fun k hk hn=>h.block k hk (fun e=>by
        rcases e with e | e
        . exact hn e
        . omega)⟩
   . have tk:(k==0)=false:=beq_eq_false_iff_ne.2 hk0;by_cases hk1:0<k
     . obtain⟨m,rfl⟩:∃m:Nat,k=(m:Int):=⟨k.toNat,by omega⟩;have Q5:=H9 (CO w4 m (by omega));have HM:=H9 hk1;go_wp2_with fail
       refine Q5.o.mono ?_;rintro e w5 ⟨rfl,wN,hb5⟩;have FV:=HP4.o.stay hb5;have q3:=FV.c3;have qf3:=FV.fz 3;have Vy:=H9 FV;have kU:=H9 wN;have IY:=H9 hb5
       clear FV wN hb5;go_wp2;go_ret;have hN:=Ht.o;rw[if_neg hk0,if_pos HM.o] at hN;obtain⟨s1,s2,s3,s4⟩:=wm.o;have hlt:=HX.o.lt;have wz:=Turns.setCell (fun k=>k=g) w5 ⟨g,3,none⟩ (.iface 206 (.pointer (some ⟨w4.heap.size,0,none⟩))) rfl;refine .mk pX cap4 n4 (fun k=>((((av (fun k=>S k∧k<w.heap.size) w k∧k≠g)∧¬D k)∧k<w2.heap.size)∨k=g)∨k=w4.heap.size) _ rfl (by rw[hN];exact VR.o) ?_ (by rw[hN];exact(zG.o.stay IY.o).turns wz (fun k e e2=>qX.o k (Or.inr e2) e)) ?_ ?_ SQ.o ?_
       . rw[hN];refine⟨Or.inl (Or.inr rfl),_,_,_,_,Vy.o.s3 _,.at2 gl2 w4.heap.size rfl (((HL4.o.turns (Turns.of_below (S:=fun _=>False) IY.o) (fun _ _ e=>e)).turns wz (fun k e=>e.1.1.2)).mono (fun k _ e=>⟨⟨Or.inl (Or.inl e),e.1.1.2⟩,by have:=e.2;omega⟩)) ⟨Or.inr rfl,by omega⟩ ?_⟩;have:=wz.row kU.o (by omega);rw[this];simp
       . intro k e e2;rcases e with e | e
         . exact qX.o k e e2
         . have:=e2.2;omega
       . intro k e;rcases e with e | e
         . exact VZ.o k e
         . exact Or.inr (by omega)
       . have h:=VY.o.trans ((Turns.of_below (S:=fun k=>(S k∨So k)∨w.heap.size<=k) IY.o).trans (wz.mono (S':=fun k=>(S k∨So k)∨w.heap.size<=k) (fun k e=>by rw[e];exact Or.inl (Or.inl HX.o.gm))) (fun _ e _=>e)) (fun _ e _=>e);exact⟨h.os,h.tape,h.output,h.size,fun k hk hn=>h.block k hk (fun e=>by
          rcases e with e | e
          . exact hn e
          . omega)⟩
     . obtain rfl:k=-1:=by omega
       have Q5:=H9 (zW w4);go_wp2_with fail
       refine Q5.o.mono ?_;rintro e w5 ⟨gb,rfl,wN,hb5⟩;have FV:=HP4.o.stay hb5;have q3:=FV.c3;have qf3:=FV.fz 3;have Vy:=H9 FV;have kU:=H9 wN;have IY:=H9 hb5
       clear FV wN hb5;go_wp2;go_ret;have hN:=Ht.o;rw[if_neg (by omega),if_neg (by omega)] at hN;obtain⟨s1,s2,s3,s4⟩:=wm.o;have hlt:=HX.o.lt;have wz:=Turns.setCell (fun k=>k=g) w5 ⟨g,3,none⟩ (.iface 204 (.pointer (some ⟨gb,0,none⟩))) rfl;refine .mk pX cap4 n4 (fun k=>((((av (fun k=>S k∧k<w.heap.size) w k∧k≠g)∧¬D k)∧k<w2.heap.size)∨k=g)∨w4.heap.size<=k) _ rfl (by rw[hN];exact VR.o) ?_ (by rw[hN];exact(zG.o.stay IY.o).turns wz (fun k e e2=>qX.o k (Or.inr e2) e)) ?_ ?_ SQ.o ?_
       . rw[hN];refine⟨Or.inl (Or.inr rfl),_,_,_,_,Vy.o.s3 _,.at3 gl2 gb (fun k=>w4.heap.size<=k) rfl (((HL4.o.turns (Turns.of_below (S:=fun _=>False) IY.o) (fun _ _ e=>e)).turns wz (fun k e=>e.1.1.2)).mono (fun k _ e=>⟨⟨Or.inl (Or.inl e),e.1.1.2⟩,by have:=e.2;omega⟩)) ((kU.o.turns wz (fun k e e2=>by omega)).mono (fun k _ e=>⟨⟨Or.inr e,by omega⟩,e⟩))⟩
       . intro k e e2;rcases e with e | e
         . exact qX.o k e e2
         . have:=e2.2;omega
       . intro k e;rcases e with e | e
         . exact VZ.o k e
         . exact Or.inr (by omega)
       . have h:=VY.o.trans ((Turns.of_below (S:=fun k=>(S k∨So k)∨w.heap.size<=k) IY.o).trans (wz.mono (S':=fun k=>(S k∨So k)∨w.heap.size<=k) (fun k e=>by rw[e];exact Or.inl (Or.inl HX.o.gm))) (fun _ e _=>e)) (fun _ e _=>e);exact⟨h.os,h.tape,h.output,h.size,fun k hk hn=>h.block k hk (fun e=>by
          rcases e with e | e
          . exact hn e
          . omega)⟩
theorem CS (w:World)(S So:Nat->Prop)(g:Nat)(s:Rq.St)(c:UInt8)(ao:Option Addr)(cap n:Nat)(es:List Rq.Ev)(h:bZ w S g s)(hG:Rq.Good s)(hp:s.ph=0∨s.ph=1)(hO:iG w So ao cap es)(hd:∀k,S k->¬So k)(hn:es.length=n)(hl:n<=90000)(hj:Rq.Joined es)(hf:Rq.Full es)(hz:Rq.bV es<=90000):
 Calls prog 63 #[.pointer (some ⟨g,0,none⟩),.slice ao n cap,.int .u8 c.toNat] w fun e w'=>gZ w S So g s c es e w':=by
 by_cases hc:(Ln.next s.ln c).code=0
 . cases he:Ln.ends s.ln c
   . exact Ab w S So g s c ao cap n es h hG hp hc he hO hd hn hj
   . exact CR w S So g s c ao cap n es h hG hp he hO hd hn hl hj hf hz
 . exact Aa w S So g s c ao cap n es h hG hp hc hO hd hn hl hj hf hz
theorem CU (w:World)(S So:Nat->Prop)(g:Nat)(s:Rq.St)(c:UInt8)(ao:Option Addr)(cap n:Nat)(es:List Rq.Ev)(h:bZ w S g s)(hG:Rq.Good s)(hp:s.ph=2∨s.ph=3)(hO:iG w So ao cap es)(hd:∀k,S k->¬So k)(hn:es.length=n)(hl:n<=90000)(hj:Rq.Joined es)(hf:Rq.Full es)(hz:Rq.bV es<=90000):
 Calls prog 64 #[.pointer (some ⟨g,0,none⟩),.slice ao n cap,.int .u8 c.toNat] w fun e w'=>gZ w S So g s c es e w':=by
 rcases hp with hp | hp
 . exact zl w S So g s c ao cap n es h hG hp hO hd hn hl hj hf hz
 . by_cases hk:s.ck.ph=1
   . exact zX w S So g s c ao cap n es h hG hp hk hO hd hn hl hj hf hz
   . exact zY w S So g s c ao cap n es h hG hp hk hO hd hn hl hj hf hz
structure zy (w:World)(S:Nat->Prop)(g:Nat)(s:Rq.St)(l:List UInt8)(k:Nat)(ao:Option Addr)(cap n:Nat)(wr:World):Prop where
 len:n=(Rq.join (Rq.outs s (l.take k))).length
 two:∃S' So',bZ wr S' g (Rq.fold s (l.take k))∧iG wr So' ao cap (Rq.join (Rq.outs s (l.take k)))∧(∀i,S' i->¬So' i)∧(∀i,S' i->S i∨w.heap.size<=i)∧(∀i,So' i->S i∨w.heap.size<=i)
 turns:Turns S w wr
inductive IZ (w:World)(S:Nat->Prop)(g:Nat)(s:Rq.St)(l:List UInt8)(e:Ending)(w':World):Prop
 | mk (ao:Option Addr) (cap n:Nat) (S' So':Nat->Prop) (he:e=.returned (.slice ao n cap)) (hn:n=(Rq.join (Rq.outs s l)).length) (hR:bZ w' S' g (Rq.fold s l)) (hO:iG w' So' ao cap (Rq.join (Rq.outs s l))) (hd:∀i,S' i->¬So' i) (hS:∀i,S' i->S i∨w.heap.size<=i) (hSo:∀i,So' i->S i∨w.heap.size<=i) (hT:Turns S w w')
theorem zy.done {w:World}{S:Nat->Prop}{g:Nat}{s:Rq.St}{l:List UInt8}{k:Nat}{ao:Option Addr}{cap n:Nat}{wr:World}(h:zy w S g s l k ao cap n wr)(ho:Rq.outs s l=Rq.outs s (l.take k))(hf:Rq.fold s l=Rq.fold s (l.take k)):IZ w S g s l (.returned (.slice ao n cap)) wr:=by
 obtain⟨S',So',h1,h2,h3,h4,h5⟩:=h.two;exact .mk ao cap n S' So' rfl (by rw[ho];exact h.len) (by rw[hf];exact h1) (by rw[ho];exact h2) h3 h4 h5 h.turns
theorem zy.step {w:World}{S:Nat->Prop}{g:Nat}{s:Rq.St}{l:List UInt8}{k:Nat}{S' So':Nat->Prop}{wr w':World}{dN:Option Addr}{cap2 n2:Nat}(hk:k<l.length)(hS:∀i,S' i->S i∨w.heap.size<=i)(hSo:∀i,So' i->S i∨w.heap.size<=i)(hT:Turns S w wr)
 (h:gZ wr S' So' g (Rq.fold s (l.take k)) l[k] (Rq.join (Rq.outs s (l.take k))) (.returned (.slice dN n2 cap2)) w'):zy w S g s l (k+1) dN cap2 n2 w':=by
 obtain⟨fu,aI,n3,S3,So3,he,hn,hR,hO,hd,FT,aaU,jw⟩:=h;injection he with he;injection he with e1 e2 e3;subst e1;subst e2;subst e3;have ht:l.take (k+1)=l.take k++[l[k]]:=List.take_succ_eq_append_getElem hk;have ho:Rq.join (Rq.outs s (l.take (k+1)))=Rq.join (Rq.join (Rq.outs s (l.take k))++(Rq.next (Rq.fold s (l.take k)) l[k]).2):=by
  rw[ht,Rq.tV,Rq.j5]
 have hfo:Rq.fold s (l.take (k+1))=(Rq.next (Rq.fold s (l.take k)) l[k]).1:=by rw[ht,Rq.tT]
 have hsz:=hT.size;refine⟨by rw[ho];exact hn,⟨S3,So3,by rw[hfo];exact hR,by rw[ho];exact hO,hd,fun i e=>?_,fun i e=>?_⟩,hT.trans jw (fun i e hi=>?_)⟩
 . rcases FT i e with e | e
   . exact hS i e
   . exact Or.inr (by omega)
 . rcases aaU i e with e | e | e
   . exact hS i e
   . exact hSo i e
   . exact Or.inr (by omega)
 . rcases e with e | e
   . rcases hS i e with e | e
     . exact e
     . omega
   . rcases hSo i e with e | e
     . exact e
     . omega
theorem FE (w:World)(S:Nat->Prop)(g:Nat)(s:Rq.St)(l:List UInt8)(bo:Option Addr)(aj n:Nat)(h:bZ w S g s)(hG:Rq.Good s)(hB:aU w bo aj l)(kH:l≠[]->∀a,bo=some a->¬S a.block)(hn:l.length=n)(hl:n<=40000):
 Calls prog 34 #[.pointer (some ⟨g,0,none⟩),.slice bo n aj] w fun e w'=>IZ w S g s l e w':=by
 subst hn;have HB:=H9 hB;have HR:=H9 h;have HG:=H9 hG;have Q5:=H9 kH
 clear hB h hG kH;go_enter func34,ntmps34;go_wp2;go_loopw [5,10] (fun vo vi wr=>∃(k:Nat) (ao:Option Addr) (cap n:Nat),k<=l.length∧vi=.int .i64 k∧vo=.slice ao n cap∧zy w S g s l k ao cap n wr) (fun _ vi _=>l.length-(intOf vi).toNat)
 case atStart =>
  refine⟨0,none,0,0,Nat.zero_le _,rfl,rfl,⟨rfl,⟨S,fun _=>False,HR.o,.bare,fun _ _ e=>e,fun _ e=>Or.inl e,fun _ e=>e.elim⟩,Turns.refl _ _⟩⟩
 case round =>
  obtain⟨k,ao,cap,n,hk,rfl,rfl,hF⟩:=hrel;have HF:=H9 hF;clear hF;by_cases hlt:k<l.length
  . obtain⟨bb,oo,rfl,_⟩:=HB.o.lit (by omega);have hne:l≠[]:=by intro e;subst e;simp at hlt
    have hbc:=(HB.o.turns HF.o.turns (fun a e=>Q5.o hne a e)).lit (by omega);obtain⟨b2,o2,he2,hc2⟩:=hbc;injection he2 with he2;injection he2 with hb2 ho2;subst hb2;subst ho2;have ck:=hc2 k hlt;have hlt':(k:Int)<l.length:=by omega
    have hcap:=HB.o.1;obtain⟨S',So',hR',xY,hd',hS',zV⟩:=HF.o.two;have hG':Rq.Good (Rq.fold s (l.take k)):=HG.o.fold _;have iw:=Rq.JB s (l.take k);have htk:(l.take k).length<=40000:=by rw[List.length_take];omega
    have hnl:(Rq.join (Rq.outs s (l.take k))).length=n:=HF.o.len.symm;have HD:=H9 (xV wr S' g (Rq.fold s (l.take k)) hR');have Bq:Hid (∀(dN:Option Addr) (cap2 n2:Nat) (w':World),gZ wr S' So' g (Rq.fold s (l.take k)) l[k] (Rq.join (Rq.outs s (l.take k))) (.returned (.slice dN n2 cap2)) w'->zy w S g s l (k+1) dN cap2 n2 w'):=fun dN cap2 n2 w' hfs=>zy.step hlt hS' zV HF.o.turns hfs;by_cases h4:(Rq.fold s (l.take k)).ph=4
    . rw[decide_eq_true h4] at HD;have hdr:=Rq.l6 (l.drop k) (Rq.fold s (l.take k)) h4;have HDn:Hid (Rq.outs s l=Rq.outs s (l.take k)∧Rq.fold s l=Rq.fold s (l.take k)):=by
       constructor
       . conv=>lhs;rw[<-List.take_append_drop k l,Rq.fq,hdr.1,List.append_nil]
       . conv=>lhs;rw[<-List.take_append_drop k l,Rq.eZ,hdr.2]
      generalize l[k]=c at *;clear hR' xY hd' hG' iw htk hnl hc2 h4 hdr Bq hS' zV;go_wp2_with (go_at_call 33;refine HD.o.mono ?_;rintro e w1 ⟨rfl,hw⟩;subst hw)
      go_ret;exact HF.o.done HDn.o.1 HDn.o.2
    . rw[decide_eq_false h4] at HD;have Yr:(Rq.fold s (l.take k)).ph=0∨(Rq.fold s (l.take k)).ph=1∨(Rq.fold s (l.take k)).ph=2∨(Rq.fold s (l.take k)).ph=3:=by have:=hG'.ph;omega
      by_cases V3:(Rq.fold s (l.take k)).ph=0∨(Rq.fold s (l.take k)).ph=1
      . have HC:=H9 (CS wr S' So' g _ l[k] ao cap n _ hR' hG' V3 xY hd' hnl (by omega) iw.2.2.2 iw.2.2.1 (by omega));have c3:wr.cell? ⟨g,3,none⟩=some .nilIface:=by
         obtain⟨_,lp,hp,bd,code,hP,hI⟩:=hR';cases hI with
         | dead c hc h=>omega
         | BU gl h L=>exact hP.c3
         | Ec gl gh D h L H=>exact hP.c3
         | at2 gl gb h L hb B=>omega
         | at3 gl gb D h L B=>omega
        generalize l[k]=c at *;generalize Rq.fold s (l.take k)=sk at *;clear hR' xY hd' hG' iw htk hnl hc2 h4 V3 Yr hS' zV;go_wp2_with (first
         | (go_at_call 33;refine HD.o.mono ?_;rintro e w1 ⟨rfl,hw⟩;subst hw)
         | (go_at_call 63;refine HC.o.mono ?_;rintro e w2 hst;obtain⟨dN,cap2,n2,S2,Vs,he,r⟩:=id hst;subst he;have sZ:=H9 hst;clear hst r))
        go_roundw
        case rel=>exact⟨k+1,dN,cap2,n2,by omega,by go_num,rfl,Bq.o _ _ _ _ sZ.o⟩
        case measure=>simp[intOf];omega
      . have Yw:(Rq.fold s (l.take k)).ph=2∨(Rq.fold s (l.take k)).ph=3:=by omega
        have HC:=H9 (CU wr S' So' g _ l[k] ao cap n _ hR' hG' Yw xY hd' hnl (by omega) iw.2.2.2 iw.2.2.1 (by omega));obtain⟨tt,vv,c3⟩:∃tt vv,wr.cell? ⟨g,3,none⟩=some (.iface tt vv):=by
         obtain⟨_,lp,hp,bd,code,hP,hI⟩:=hR';cases hI with
         | dead c hc h=>omega
         | BU gl h L=>omega
         | Ec gl gh D h L H=>omega
         | at2 gl gb h L hb B=>exact⟨_,_,hP.c3⟩
         | at3 gl gb D h L B=>exact⟨_,_,hP.c3⟩
        generalize l[k]=c at *;generalize Rq.fold s (l.take k)=sk at *;clear hR' xY hd' hG' iw htk hnl hc2 h4 V3 Yw Yr hS' zV;go_wp2_with (first
         | (go_at_call 33;refine HD.o.mono ?_;rintro e w1 ⟨rfl,hw⟩;subst hw)
         | (go_at_call 64;refine HC.o.mono ?_;rintro e w2 hst;obtain⟨dN,cap2,n2,S2,Vs,he,r⟩:=id hst;subst he;have sZ:=H9 hst;clear hst r))
        go_roundw
        case rel=>exact⟨k+1,dN,cap2,n2,by omega,by go_num,rfl,Bq.o _ _ _ _ sZ.o⟩
        case measure=>simp[intOf];omega
  . obtain rfl:k=l.length:=by omega
    go_wp2;go_ret;exact HF.o.done (by rw[List.take_length]) (by rw[List.take_length])
end Go.Proofs.YtjmndjmhjleabaaGreatDoor