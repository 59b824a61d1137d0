/- Small texts, one behind the other: RqTake, RqHead, RqHeadB, RqFeed. -/
import Derived.Test.YtjmndjmhjleabaaGreatDoorAl
import Derived.Test.YtjmndjmhjleabaaGreatDoorAm
import Derived.Test.YtjmndjmhjleabaaGreatDoorRqFst
import Derived.Test.YtjmndjmhjleabaaGreatDoorRqFld
import Derived.Test.YtjmndjmhjleabaaGreatDoorPk34
import Derived.Test.YtjmndjmhjleabaaGreatDoorPk42
set_option maxHeartbeats 4000000
set_option maxRecDepth 100000
open Go.Proofs.Tryz
namespace Go.Proofs.YtjmndjmhjleabaaGreatDoor
open Go.RowKit
inductive Pz (w:World)(S:Nat->Prop)(g:Nat)(s:Rq.St)(t:av)(e:Ending)(w':World):Prop
 | quiet (s':Rq.St) (he:e=.returned (.int .i64 0)) (hl:Rq.line s t=(s',[])) (hR:jI w' (gN S w) g s') (hT:Turns S w w')
 | bad (c:Nat) (hc:c≠0) (he:e=.returned (.int .i64 (c:Int))) (hl:Rq.line s t=(Rq.dead s,[.fail c])) (lp hp bd:Value) (hP:jg w' g lp hp false bd 0) (hT:Turns S w w')
 | whole (k:Int) (gl gh:Nat) (D:Nat->Prop) (he:e=.returned (.int .i64 0)) (hk:Rq.len s.hd=.inr k) (ht:t=[]) (h1:s.ph=1) (hP:jg w' g (.pointer (some ⟨gl,0,none⟩)) (.pointer (some ⟨gh,0,none⟩)) true .nilIface 0)
  (hL:iA w' (fun k=>(S k∧k≠g)∧¬D k) gl s.ln) (hH:jG w' (fun k=>(S k∧k≠g)∧D k) gh { s.hd with length:=k }) (hT:Turns S w w')
theorem Fv {t:ay}(h:t.data.toList=[]):t=⟨#[]⟩:=by
 have:t.data=#[]:=by
  apply Array.ext';simpa using h
 cases t;simp only at this;rw[this]
theorem IV {t:ay}(h:t.data.toList≠[]):0<t.size:=by
 have h2:t.data.toList.length=t.size:=by rw[aO];rfl
 have:=fE.2 h;omega
theorem jI.new {w W:World}{S:Nat->Prop}{g:Nat}{s:Rq.St}(h:jI w S g s):jI w (gN S W) g s:=h.mono (fun _ _ e=>Or.inl e)
theorem XU (w:World)(S:Nat->Prop)(g:Nat)(s:Rq.St)(t:ay)(h:jI w S g s)(hp:s.ph=0)(ht:t.size<=200)(hv:∀b∈t.data.toList,Ch.visible b.toNat=true):
 Calls prog 102 #[.pointer (some ⟨g,0,none⟩),.string t] w fun e w'=>Pz w S g s t.data.toList e w':=by
 have HR:=H9 h;obtain⟨hg,lp,hpp,bd,code,hP,hI⟩:=h;cases hI with
 | dead c hc h4=>omega
 | K6 gl gh D h1 L H=>omega
 | at2 gl gb h2 L hb B=>omega
 | at3 gl gb D h3 L B=>omega
 | Jp gl h0 L =>
   have c1:=hP.c1;by_cases hn:t.data.toList=[]
   . obtain rfl:=Fv hn;have HL:Hid (Rq.line s []=(s,[])):=by unfold Hid Rq.line;rw[if_pos hp,if_pos rfl]
     clear hP L hn;go_enter func102,ntmps102;go_wp2;go_ret;exact .quiet s rfl HL.o HR.o.new (Turns.refl _ _)
   . have hts:=IV hn;have hemp:t.toList.isEmpty=false:=Ch.lV t hts;have HF:=H9 (Ug w g _ _ t hP (by omega) hv);have HL:Hid (Rq.line s t.data.toList=match Rq.first t.data.toList with | .inl c=>(Rq.dead s,[.fail c]) | .inr h=>({ s with ph:=1,hd:=h },[])):=by
      unfold Hid Rq.line;rw[if_pos hp,if_neg hn];cases Rq.first t.data.toList <;> rfl
     have J8:=H9 hP;have Fw:=H9 L;have HGm:=H9 hg
     have HNz:Hid (∀c,Rq.first t.data.toList=.inl c->c≠0):=fun c e=>by
      unfold Rq.first at e;split at e
      . split at e
        . injection e with e;omega
        . split at e
          . injection e with e;omega
          . split at e
            . cases e
            . split at e
              . cases e
              . injection e with e;omega
      . injection e with e;omega
     clear hP L hg hn hv;generalize t.data.toList=tl at *;go_enter func102,ntmps102;go_wp2_with fail
     refine HF.o.mono ?_;rintro e w1 (⟨c,rfl,hf,hB⟩ | ⟨hd,gh,rfl,hf,hP1,hH1,hT1⟩)
     . have Q5:=H9 hf;have HB:=H9 hB
       clear hf hB;go_wp2;go_ret;refine .bad c (HNz.o c Q5.o) rfl ?_ _ _ _ (J8.o.stay HB.o) (Turns.of_below HB.o);rw[HL.o,Q5.o]
     . have Q5:=H9 hf;have Z7:=H9 hP1;have HH1:=H9 hH1;have HT1:=H9 hT1
       clear hf hP1 hH1 hT1;go_wp2;go_ret;refine .quiet { s with ph:=1,hd:=hd } rfl (by rw[HL.o,Q5.o]) ⟨Or.inl HGm.o,_,_,_,_,Z7.o,?_⟩ (HT1.o.mono (fun k e=>by rw[e];exact HGm.o));refine .K6 gl gh (fun k=>w.heap.size<=k) rfl ?_ ?_
       . refine((Fw.o.mono (S':=fun k=>(gN S w k∧k≠g)∧¬w.heap.size<=k) (fun k hk e=>⟨⟨Or.inl e.1,e.2⟩,by omega⟩)).turns HT1.o (fun k e=>e.1.2))
       . refine HH1.o.mono (fun k hk e=>⟨⟨Or.inr e,?_⟩,e⟩);have:=J8.o.lt;omega
theorem XV (w:World)(S:Nat->Prop)(g:Nat)(s:Rq.St)(t:ay)(h:jI w S g s)(hp:s.ph=1)(hG:Rq.nH s.hd)(ht:t.size<=200):
 Calls prog 102 #[.pointer (some ⟨g,0,none⟩),.string t] w fun e w'=>Pz w S g s t.data.toList e w':=by
 obtain⟨hg,lp,hpp,bd,code,hP,hI⟩:=h;cases hI with
 | dead c hc h4=>omega
 | Jp gl h0 L=>omega
 | at2 gl gb h2 L hb B=>omega
 | at3 gl gb D h3 L B=>omega
 | K6 gl gh D h1 L H =>
   have c1:=hP.c1;have UK:¬((fun k=>(S k∧k≠g)∧D k) g):=fun e=>e.1.2 rfl;have J8:=H9 hP;have Fw:=H9 L;have HGm:=H9 hg;have Pf:=H9 H
   by_cases hn:t.data.toList=[]
   . obtain rfl:=Fv hn;have HE:=H9 (aac w g gh _ _ _ s.hd hP H UK hG);have HL:Hid (∀c,Rq.len s.hd=.inl c->Rq.line s []=(Rq.dead s,[.fail c])):=fun c e=>by
      unfold Rq.line;rw[if_neg (by omega),if_pos rfl,e]
     clear hP L hg hn H UK;go_enter func102,ntmps102;go_wp2_with fail
     refine HE.o.mono ?_;rintro e w1 (⟨c,hc,rfl,hf,hP1,hT1⟩ | ⟨k,rfl,hf,hP1,hH1,hT1⟩)
     . have Q5:=H9 hf;have Z7:=H9 hP1;have HT1:=H9 hT1;have M6:=H9 hc
       clear hf hP1 hT1 hc;go_wp2;go_ret;exact .bad c M6.o rfl (HL.o c Q5.o) _ _ _ Z7.o (HT1.o.mono (fun k e=>by
        rcases e with e | e
        . exact e.1.1
        . rw[e];exact HGm.o))
     . have Q5:=H9 hf;have Z7:=H9 hP1;have HT1:=H9 hT1;have HH1:=H9 hH1
       clear hf hP1 hT1 hH1;go_wp2;go_ret;refine .whole k gl gh D rfl Q5.o rfl hp Z7.o ?_ HH1.o (HT1.o.mono (fun k e=>by
        rcases e with e | e
        . exact e.1.1
        . rw[e];exact HGm.o))
       exact Fw.o.turns HT1.o (fun k e e2=>by
        rcases e2 with e2 | e2
        . exact e.2 e2.2
        . exact e.1.2 e2)
   . have hts:=IV hn;have hemp:t.toList.isEmpty=false:=Ch.lV t hts;have yF:Rq.line s t.data.toList=if s.hd.fields.length=16 then (Rq.dead s,[.fail 8]) else if (Fd.of t.data.toList).code≠0 then (Rq.dead s,[.fail (Fd.of t.data.toList).code]) else ({ s with hd:={ s.hd with fields:=s.hd.fields++[((Fd.of t.data.toList).name,(Fd.of t.data.toList).value)] } },[]):=by
      unfold Rq.line;rw[if_neg (by omega),if_neg hn]
     by_cases h16:s.hd.fields.length=16
     . have HF:=H9 (Pv w g gh _ _ _ s.hd t hP H h16);rw[if_pos h16] at yF;have HL:=H9 yF;generalize t.data.toList=tl at *;clear hP L hg hn H UK yF h16;go_enter func102,ntmps102;go_wp2_with fail
       refine HF.o.mono ?_;rintro e w1 ⟨rfl,hw⟩;subst hw;go_wp2;go_ret;exact .bad 8 (by omega) rfl HL.o _ _ _ J8.o (Turns.refl _ _)
     . rw[if_neg h16] at yF;by_cases hc:(Fd.of t.data.toList).code=0
       . have HF:=H9 (XP w g gh _ _ _ s.hd t hP H UK (by have:=hG.many;omega) (by omega) hc);rw[if_neg (fun e=>e hc)] at yF;have HL:=H9 yF;generalize Fd.of t.data.toList=fd at *;generalize t.data.toList=tl at *;clear hP L hg hn H UK yF h16 hc;go_enter func102,ntmps102;go_wp2_with fail
         refine HF.o.mono ?_;rintro e w1 ⟨rfl,hP1,hH1,hT1⟩;have Z7:=H9 hP1;have HH1:=H9 hH1;have HT1:=H9 hT1
         clear hP1 hH1 hT1;go_wp2;go_ret;refine .quiet _ rfl HL.o ⟨Or.inl HGm.o,_,_,_,_,Z7.o,?_⟩ (HT1.o.mono (fun k e=>e.1.1));refine .K6 gl gh (fun k=>D k∨w.heap.size<=k) hp ?_ ?_
         . refine((Fw.o.mono (S':=fun k=>((gN S w k∧k≠g)∧¬(D k∨w.heap.size<=k))) (fun k hk e=>⟨⟨Or.inl e.1.1,e.1.2⟩,fun e2=>by
            rcases e2 with e2 | e2
            . exact e.2 e2
            . omega⟩)).turns HT1.o (fun k e e2=>e.2 (Or.inl e2.2)))
         . refine HH1.o.mono (fun k hk e=>?_);rcases e with e | e
           . exact⟨⟨Or.inl e.1.1,e.1.2⟩,Or.inl e.2⟩
           . exact⟨⟨Or.inr e,by have:=J8.o.lt;omega⟩,Or.inr e⟩
       . have HF:=H9 (Uh w g gh _ _ _ s.hd t hP H h16 (by omega) hc);rw[if_pos hc] at yF;have HL:=H9 yF;have M6:=H9 hc
         generalize (Fd.of t.data.toList).code=cc at *;generalize t.data.toList=tl at *;clear hP L hg hn H UK yF h16 hc;go_enter func102,ntmps102;go_wp2_with fail
         refine HF.o.mono ?_;rintro e w1 ⟨rfl,hB⟩;have HB:=H9 hB;clear hB;go_wp2;go_ret;exact .bad cc M6.o rfl HL.o _ _ _ (J8.o.stay HB.o) (Turns.of_below HB.o)
structure aad (w:World)(S:Nat->Prop)(g gl:Nat)(s:Rq.St)(c:UInt8):Prop where
 c0:w.cell? ⟨g,0,none⟩=some (.pointer (some ⟨gl,0,none⟩))
 fed:Calls prog 101 #[.pointer (some ⟨gl,0,none⟩),.int .u8 c.toNat] w fun e w'=>e=.returned (Ln.fed s.ln c)∧jI w' (gN (fun k=>S k∧k<w.heap.size) w) g { s with ln:=Ln.next s.ln c }∧Turns (fun k=>(S k∧k<w.heap.size)∧k≠g) w w'
theorem Fx (w:World)(S:Nat->Prop)(g:Nat)(s:Rq.St)(c:UInt8)(h:jI w S g s)(hG:Rq.Good s)(hp:s.ph=0∨s.ph=1):∃gl,aad w S g gl s c:=by
 obtain⟨hg,lp,hpp,bd,code,hP,hI⟩:=h;have Ai:=hP.lt;cases hI with
 | dead c hc h4=>omega
 | at2 gl gb h2 L hb B=>omega
 | at3 gl gb D h3 L B=>omega
 | Jp gl h0 L =>
   refine⟨gl,hP.c0,(pz w (fun k=>(S k∧k<w.heap.size)∧k≠g) gl s.ln c (L.mono (fun k hk e=>⟨⟨e.1,hk⟩,e.2⟩)) hG.ln.short).mono ?_⟩;rintro e w' ⟨he,hL,hT⟩;refine⟨he,⟨Or.inl ⟨hg,Ai⟩,_,_,_,_,hP.turns hT (fun e=>e.2 rfl),.Jp gl h0 (hL.mono (fun k _ e=>?_))⟩,hT⟩;rcases e with e | e
   . exact⟨Or.inl e.1,e.2⟩
   . exact⟨Or.inr e,by omega⟩
 | K6 gl gh D h1 L H =>
   refine⟨gl,hP.c0,(pz w (fun k=>((S k∧k<w.heap.size)∧k≠g)∧¬D k) gl s.ln c (L.mono (fun k hk e=>⟨⟨⟨e.1.1,hk⟩,e.1.2⟩,e.2⟩)) hG.ln.short).mono ?_⟩;rintro e w' ⟨he,hL,hT⟩;refine⟨he,⟨Or.inl ⟨hg,Ai⟩,_,_,_,_,hP.turns hT (fun e=>e.1.2 rfl),.K6 gl gh (fun k=>D k∧k<w.heap.size) h1 (hL.mono (fun k _ e=>?_)) (((H.mono (S':=fun k=>(gN (fun k=>S k∧k<w.heap.size) w k∧k≠g)∧D k∧k<w.heap.size) (fun k hk e=>⟨⟨Or.inl ⟨e.1.1,hk⟩,e.1.2⟩,e.2,hk⟩)).turns hT (fun k e e2=>e2.2 e.2.1)))⟩,hT.mono (fun k e=>e.1)⟩;rcases e with e | e
   . exact⟨⟨Or.inl e.1.1,e.1.2⟩,fun e2=>e.2 e2.1⟩
   . exact⟨⟨Or.inr e,by omega⟩,fun e2=>by have:=e2.2;omega⟩
theorem Gi (w:World)(S So:Nat->Prop)(g:Nat)(s:Rq.St)(c:UInt8)(ao:ak)(cap n:Nat)(es:List Rq.Ev)(h:jI w S g s)(hG:Rq.Good s)(hp:s.ph=0∨s.ph=1)(hc:(Ln.next s.ln c).code≠0)(hO:nW w So ao cap es)(hd:∀k,S k->¬So k)(hn:es.length=n)(hl:n<=90000)(hj:Rq.Joined es)(hf:Rq.Full es)(hz:Rq.jE es<=90000):
 Calls prog 63 #[.pointer (some ⟨g,0,none⟩),.slice ao n cap,.int .u8 c.toNat] w fun e w'=>nK w S So g s c es e w':=by
 obtain⟨gl,XW⟩:=Fx w S g s c h hG hp;have c0:=XW.c0;have HF:=H9 XW.fed;have abg:=Ln.Gz hc;have HN:Hid (Rq.next s c=(Rq.dead s,[.fail (Ln.next s.ln c).code])):=by
  unfold Hid Rq.next;rw[if_neg (by omega),if_neg (by omega),if_neg (by omega),if_pos hc]
 unfold Ln.fed at HF;rw[abg] at HF;have HX:Hid (S g∧g<w.heap.size∧∀k,S k->¬So k):=⟨h.1,h.lt,hd⟩;have U1:=H9 (hO.mono (S':=fun k=>So k∧k<w.heap.size) (fun k hk e=>⟨e,hk⟩));have HE:=H9 (And.intro hn (And.intro hl (And.intro hj (And.intro hf hz))));have tc:(((Ln.next s.ln c).code:Int) != 0)=true:=by rw[cZ];omega
 have M6:=H9 hc;clear h hG XW hO hd hn hj hf hz hc abg;generalize (⟨(Ln.text s.ln c).toArray⟩:ay)=tx at *;generalize (Ln.next s.ln c)=ln' at *;generalize ln'.code=cc at *;go_enter func63,ntmps63;go_wp2_with fail
 refine HF.o.mono ?_;rintro e w1 ⟨rfl,uD,hT1⟩;have HR1:=H9 uD;have HT1:=H9 hT1
 clear uD hT1;go_wp2_with fail
 obtain⟨hn,hl,hj,hf,hz⟩:=HE.o;obtain⟨hg,Ai,hd⟩:=HX.o;obtain⟨_,lp1,hp1,bd1,abh,hP1,_⟩:=HR1.o;refine(Fe w1 g _ _ _ _ _ (fun k=>So k∧k<w.heap.size) ao cap n cc es hP1 (U1.o.turns HT1.o (fun k e e2=>hd k e2.1.1 e.1)) (fun e=>hd g hg e.1) hn (by omega) hj hf (by omega)).mono ?_;rintro e w2 ⟨jy,cap2,n2,rfl,hn2,hO2,hP2,jV⟩;have MZ:=H9 hn2;have BP:=H9 hO2;have uz:=H9 hP2;have HT2:=H9 jV
 clear hn hl hj hf hz hd hg Ai hn2 hO2 hP2 jV hP1;go_wp2;go_ret;obtain⟨hg,Ai,hd⟩:=HX.o;have hs1:=HT1.o.size;refine .mk jy cap2 n2 (fun k=>k=g) _ rfl (by rw[HN.o];exact MZ.o) ?_ (by rw[HN.o];exact BP.o) ?_ (fun k e=>by rw[e];exact Or.inl hg) ?_ ?_
 . rw[HN.o];exact⟨rfl,_,_,_,_,uz.o,.dead cc M6.o rfl⟩
 . intro k e e2;subst e;rcases e2 with e2 | e2
   . exact hd k hg e2.1
   . omega
 . intro k e;rcases e with e | e
   . exact Or.inr (Or.inl e.1)
   . exact Or.inr (Or.inr (by omega))
 . refine(HT1.o.mono (fun k e=>Or.inl e.1.1)).trans (HT2.o.mono (fun k e=>?_)) (fun _ e _=>e);rcases e with e | e
   . exact Or.inr e.1
   . rw[e];exact Or.inl hg
theorem Gj (w:World)(S So:Nat->Prop)(g:Nat)(s:Rq.St)(c:UInt8)(ao:ak)(cap n:Nat)(es:List Rq.Ev)(h:jI w S g s)(hG:Rq.Good s)(hp:s.ph=0∨s.ph=1)(hc:(Ln.next s.ln c).code=0)(he:Ln.ends s.ln c=false)(hO:nW w So ao cap es)(hd:∀k,S k->¬So k)(hn:es.length=n)(hj:Rq.Joined es):
 Calls prog 63 #[.pointer (some ⟨g,0,none⟩),.slice ao n cap,.int .u8 c.toNat] w fun e w'=>nK w S So g s c es e w':=by
 obtain⟨gl,XW⟩:=Fx w S g s c h hG hp;have c0:=XW.c0;have HF:=H9 XW.fed;have HN:Hid (Rq.next s c=({ s with ln:=Ln.next s.ln c },[])):=by
  unfold Hid Rq.next;rw[if_neg (by omega),if_neg (by omega),if_neg (by omega),if_neg (fun e=>e hc),if_neg (by rw[he];simp)]
 unfold Ln.fed at HF;rw[he,hc] at HF;have HX:Hid (S g∧g<w.heap.size∧∀k,S k->¬So k):=⟨h.1,h.lt,hd⟩;have U1:=H9 (hO.mono (S':=fun k=>So k∧k<w.heap.size) (fun k hk e=>⟨e,hk⟩));have HE:=H9 (And.intro hn hj);clear h hG XW hO hd hn hj hc he;generalize (⟨(Ln.text s.ln c).toArray⟩:ay)=tx at *;go_enter func63,ntmps63;go_wp2_with fail
 refine HF.o.mono ?_;rintro e w1 ⟨rfl,uD,hT1⟩;have HR1:=H9 uD;have HT1:=H9 hT1
 have c2:w1.cell? ⟨g,2,none⟩=some (.bool false):=by obtain⟨_,lp1,hp1,bd1,abh,hP1,_⟩:=uD;exact hP1.c2
 clear uD hT1;go_wp2;go_ret;obtain⟨hn,hj⟩:=HE.o;obtain⟨hg,Ai,hd⟩:=HX.o;have hs1:=HT1.o.size;have hej:Rq.join (es++(Rq.next s c).2)=es:=by rw[HN.o,bW];exact Rq.jm es hj
 refine .mk ao cap n _ (fun k=>So k∧k<w.heap.size) rfl (by rw[hej];exact hn.symm) (by rw[HN.o];exact HR1.o) (by rw[hej];exact U1.o.turns HT1.o (fun k e e2=>hd k e2.1.1 e.1)) ?_ ?_ (fun k e=>Or.inr (Or.inl e.1)) (HT1.o.mono (fun k e=>Or.inl e.1.1))
 . intro k e e2;rcases e with e | e
   . exact hd k e.1 e2.1
   . omega
 . intro k e;rcases e with e | e
   . exact Or.inl e.1
   . exact Or.inr e
structure XY (w:World)(S So:Nat->Prop)(g:Nat)(ao:ak)(cap n:Nat)(es:List Rq.Ev):Prop where
 gm:S g
 lt:g<w.heap.size
 apart:∀k,S k->¬So k
 evs:nW w (fun k=>So k∧k<w.heap.size) ao cap es
 len:es.length=n
 most:n<=90000
 joined:Rq.Joined es
 full:Rq.Full es
 sum:Rq.jE es<=90000
theorem Uo {w3 w4:World}{T:Nat->Prop}{v0 v1 v2 v3:Value}{k:Int}(hT:Turns T (w3.alloc (.cells #[v0,v1,v2,v3,.int .i64 k] 68)) w4)(hn:¬T w3.heap.size):w4.cell? ⟨w3.heap.size,4,none⟩=some (.int .i64 k):=by
 have hr:=hT.row (fI w3 (.cells #[v0,v1,v2,v3,.int .i64 k] 68)) hn;exact fK w4 w3.heap.size 4 _ _ _ hr
theorem JW (w:World)(S So:Nat->Prop)(g:Nat)(s:Rq.St)(c:UInt8)(ao:ak)(cap n:Nat)(es:List Rq.Ev)(h:jI w S g s)(hG:Rq.Good s)(hp:s.ph=0∨s.ph=1)(he:Ln.ends s.ln c=true)(hO:nW w So ao cap es)(hd:∀k,S k->¬So k)(hn:es.length=n)(hl:n<=90000)(hj:Rq.Joined es)(hf:Rq.Full es)(hz:Rq.jE es<=90000):
 Calls prog 63 #[.pointer (some ⟨g,0,none⟩),.slice ao n cap,.int .u8 c.toNat] w fun e w'=>nK w S So g s c es e w':=by
 obtain⟨gl,XW⟩:=Fx w S g s c h hG hp;have c0:=XW.c0;have HF:=H9 XW.fed;obtain⟨e1,e2⟩:=Ln.K4 he;have hc:(Ln.next s.ln c).code=0:=by rw[e1];rfl
 have hN:Rq.next s c=Rq.line { s with ln:=Ln.start } (Ln.text s.ln c):=by
  unfold Rq.next;rw[if_neg (by omega),if_neg (by omega),if_neg (by omega),if_neg (fun e=>e hc),if_pos he]
 unfold Ln.fed at HF;rw[he,hc,e1] at HF;have hsh:=Rq.uK (c:=c) hG.ln;have HX:Hid (XY w S So g ao cap n es):=⟨h.1,h.lt,hd,hO.mono (fun k hk e=>⟨e,hk⟩),hn,hl,hj,hf,hz⟩;have hHG:s.ph=1->Rq.nH s.hd:=fun e=>(hG.hd e).1;have tF:Hid (∀w1,jI w1 (gN (fun k=>S k∧k<w.heap.size) w) g { s with ln:=Ln.start }->Calls prog 102 #[.pointer (some ⟨g,0,none⟩),.string ⟨(Ln.text s.ln c).toArray⟩] w1 fun e w'=>Pz w1 (gN (fun k=>S k∧k<w.heap.size) w) g { s with ln:=Ln.start } (Ln.text s.ln c) e w'):=fun w1 hR=>by
  have hsz:(⟨(Ln.text s.ln c).toArray⟩:ay).size<=200:=by show(Ln.text s.ln c).toArray.size<=200;rw[bM];exact hsh.1
  rcases hp with hp | hp
  . exact XU w1 _ g _ ⟨(Ln.text s.ln c).toArray⟩ hR hp hsz hsh.2
  . exact XV w1 _ g _ ⟨(Ln.text s.ln c).toArray⟩ hR hp (hHG hp) hsz
 have HN:=H9 hN;clear h hG XW hO hd hn hj hf hz hc he e1 e2 hsh hHG hN hl;generalize (⟨(Ln.text s.ln c).toArray⟩:ay)=tx at *;generalize Ln.text s.ln c=tt at *;go_enter func63,ntmps63;go_wp2_with fail
 refine HF.o.mono ?_;rintro e w1 ⟨rfl,uD,hT1⟩;have HR1:=H9 uD;have HT1:=H9 hT1
 clear uD hT1;go_wp2_with fail
 refine(tF.o w1 HR1.o).mono ?_;rintro e w2 (⟨s',rfl,hl2,hR2,jV⟩ | ⟨cc,hcc,rfl,hl2,lp2,hp2,bd2,hP2,jV⟩ | ⟨k,gl2,gh,D,rfl,hk,htt,hph,hP2,hL2,hH2,jV⟩)
 . have HL:=H9 hl2;have HR2:=H9 hR2;have HT2:=H9 jV
   have c2:w2.cell? ⟨g,2,none⟩=some (.bool false):=by obtain⟨_,lp1,hp1,bd1,abh,hP1,_⟩:=hR2;exact hP1.c2
   clear hl2 hR2 jV;go_wp2;go_ret;have hX:=HX.o;have hs1:=HT1.o.size;have hs2:=HT2.o.size;have hn2:(Rq.next s c).1=s'∧(Rq.next s c).2=[]:=by rw[HN.o,HL.o];exact⟨rfl,rfl⟩
   have hej:Rq.join (es++(Rq.next s c).2)=es:=by rw[hn2.2,bW];exact Rq.jm es hX.joined
   have hE2:=(hX.evs.turns HT1.o (fun k e e2=>hX.apart k e2.1.1 e.1)).turns HT2.o (fun k e e2=>by
    rcases e2 with e2 | e2
    . exact hX.apart k e2.1 e.1
    . have:=e.2;omega)
   refine .mk ao cap n _ (fun k=>So k∧k<w.heap.size) rfl (by rw[hej];exact hX.len.symm) (by rw[hn2.1];exact HR2.o) (by rw[hej];exact hE2) ?_ ?_ (fun k e=>Or.inr (Or.inl e.1)) ?_
   . intro k e e2;rcases e with (e | e) | e
     . exact hX.apart k e.1 e2.1
     . omega
     . omega
   . intro k e;rcases e with (e | e) | e
     . exact Or.inl e.1
     . exact Or.inr e
     . exact Or.inr (by omega)
   . refine(HT1.o.mono (fun k e=>Or.inl e.1.1)).trans (HT2.o.mono (S':=fun k=>(S k∨So k)∨w.heap.size<=k) (fun k e=>?_)) (fun k e hk=>?_)
     . rcases e with e | e
       . exact Or.inl (Or.inl e.1)
       . exact Or.inr e
     . rcases e with e | e
       . exact e
       . omega
 . have HL:=H9 hl2;have uz:=H9 hP2;have HT2:=H9 jV;have M6:=H9 hcc
   have tc:((cc:Int) != 0)=true:=by rw[cZ];omega
   clear hl2 hP2 jV hcc;go_wp2_with fail
   have hX:=HX.o;have hs1:=HT1.o.size;have hE2:=(hX.evs.turns HT1.o (fun k e e2=>hX.apart k e2.1.1 e.1)).turns HT2.o (fun k e e2=>by
    rcases e2 with e2 | e2
    . exact hX.apart k e2.1 e.1
    . have:=e.2;omega)
   refine(Fe w2 g _ _ _ _ _ (fun k=>So k∧k<w.heap.size) ao cap n cc es uz.o hE2 (fun e=>hX.apart g hX.gm e.1) hX.len (by have:=hX.most;omega) hX.joined hX.full (by have:=hX.sum;omega)).mono ?_;rintro e w3 ⟨jQ,gX,n3,rfl,hn3,hO3,hP3,pF⟩;have HN3:=H9 hn3;have oD:=H9 hO3;have nC:=H9 hP3;have HT3:=H9 pF
   clear hX hE2 hn3 hO3 hP3 pF hs1;go_wp2;go_ret;have hX:=HX.o;have hs1:=HT1.o.size;have hs2:=HT2.o.size;have hn2:(Rq.next s c).1.ph=4∧(Rq.next s c).2=[.fail cc]:=by rw[HN.o,HL.o];exact⟨rfl,rfl⟩
   refine .mk jQ gX n3 (fun k=>k=g) _ rfl (by rw[hn2.2];exact HN3.o) ⟨rfl,_,_,_,_,nC.o,.dead cc M6.o hn2.1⟩ (by rw[hn2.2];exact oD.o) ?_ (fun k e=>by rw[e];exact Or.inl hX.gm) ?_ ?_
   . intro k e e2;subst e;have:=hX.lt;rcases e2 with e2 | e2
     . exact hX.apart k hX.gm e2.1
     . omega
   . intro k e;rcases e with e | e
     . exact Or.inr (Or.inl e.1)
     . exact Or.inr (Or.inr (by omega))
   . refine(HT1.o.mono (fun k e=>Or.inl e.1.1)).trans ((HT2.o.mono (S':=fun k=>(S k∨So k)∨w.heap.size<=k) (fun k e=>?_)).trans (HT3.o.mono (fun k e=>?_)) (fun _ e _=>e)) (fun k e hk=>?_)
     . rcases e with e | e
       . exact Or.inl (Or.inl e.1)
       . exact Or.inr e
     . rcases e with e | e
       . exact Or.inl (Or.inr e.1)
       . rw[e];exact Or.inl (Or.inl hX.gm)
     . rcases e with e | e
       . exact e
       . omega
 . have uz:=H9 hP2;have HL2:=H9 hL2;have HT2:=H9 jV;have HK:=H9 hk;have HTt:=H9 htt;have HPh:=H9 hph
   have c2:=hP2.c2;have Dc:=H9 (XL w2 g gh _ _ _ _ hP2 hH2 (fun e=>e.1.2 rfl));have hkr:=Rq.xD hk;clear hP2 hL2 jV hk htt hph hH2;go_wp2_with fail
   refine Dc.o.mono ?_;rintro e w3 ⟨fo,gM,rfl,hP3,hV3,pF⟩;have nC:=H9 hP3;have HV3:=H9 hV3;have HT3:=H9 pF
   clear hP3 hV3 pF;go_wp2_with fail
   have hX:=HX.o;have hs1:=HT1.o.size;have hs2:=HT2.o.size;have hs3:=HT3.o.size;have hlt:=hX.lt;have hA3:aj w3 (w3.alloc (.cells #[.string ⟨s.hd.method.toArray⟩,.string ⟨s.hd.target.toArray⟩,.int .i64 (s.hd.minor:Int),.slice fo s.hd.fields.length gM,.int .i64 k] 68)):=(fJ _ _).alloc (aM _) _;have hzA:(w3.alloc (.cells #[.string ⟨s.hd.method.toArray⟩,.string ⟨s.hd.target.toArray⟩,.int .i64 (s.hd.minor:Int),.slice fo s.hd.fields.length gM,.int .i64 k] 68)).heap.size=w3.heap.size+1:=by simp
   have hE3:=((((hX.evs.turns HT1.o (fun k e e2=>hX.apart k e2.1.1 e.1)).turns HT2.o (fun k e e2=>by
    rcases e2 with e2 | e2
    . exact hX.apart k e2.1 e.1
    . have:=e.2;omega)).turns HT3.o (fun k e e2=>hX.apart g hX.gm (e2▸e.1))).stay hA3)
   have Yy:=(HV3.o.mono (S':=fun k=>((gN (fun k=>S k∧k<w.heap.size) w k∧k≠g)∧D k)∧k<w3.heap.size) (fun k hk e=>⟨e,hk⟩)).turns (Turns.of_below (S:=fun _=>False) hA3) (fun _ _ e=>e);refine(XJ _ (fun k=>So k∧k<w.heap.size) (fun k=>((gN (fun k=>S k∧k<w.heap.size) w k∧k≠g)∧D k)∧k<w3.heap.size) ao fo cap n gM s.hd.fields.length { s.hd with length:=k } es hE3 Yy rfl (fun k e e2=>?_) hX.len (by have:=hX.most;omega) hX.joined hX.full (by have:=hX.sum;omega)).mono ?_
   . rcases e2.1.1.1 with e3 | e3
     . exact hX.apart k e3.1 e.1
     . have:=e.2;omega
   rintro e w4 ⟨xS,cap4,n4,rfl,Ka,hO4,EU⟩;have hs4:=EU.size;have c4:=Uo EU (fun e=>by have:=e.2;omega);have hadd:=added hX.len Ka (fun a e=>by cases e) hX.full;have hP4:=(nC.o.stay hA3).turns EU (fun e=>hX.apart g hX.gm e.1);have hL4:=(((HL2.o.mono (S':=fun k=>((gN (fun k=>S k∧k<w.heap.size) w k∧k≠g)∧¬D k)∧k<w2.heap.size) (fun k hk e=>⟨e,hk⟩)).turns HT3.o (fun k e=>e.1.1.2)).turns (Turns.of_below (S:=fun _=>False) hA3) (fun _ _ e=>e)).turns EU (fun k e e2=>by
    rcases e.1.1.1 with e3 | e3
    . exact hX.apart k e3.1 e2.1
    . have:=e2.2;omega)
   have afh:=hO4.mono (S':=fun k=>((So k∧k<w.heap.size)∨(((gN (fun k=>S k∧k<w.heap.size) w k∧k≠g)∧D k)∧k<w3.heap.size)∨w3.heap.size+1<=k)∧k<w4.heap.size) (fun k hk e=>⟨by rw[hzA] at e;exact e,hk⟩);have afi:Turns (fun k=>(S k∨So k)∨w.heap.size<=k) w w4:=by
    refine(HT1.o.mono (fun k e=>Or.inl (Or.inl e.1.1))).trans ((HT2.o.mono (fun k e=>?_)).trans ((HT3.o.mono (fun k e=>by rw[e];exact Or.inl (Or.inl hX.gm))).trans ((Turns.of_below hA3).trans (EU.mono (fun k e=>Or.inl (Or.inr e.1))) (fun _ e _=>e)) (fun _ e _=>e)) (fun _ e _=>e)) (fun _ e _=>e);rcases e with e | e
    . exact Or.inl (Or.inl e.1)
    . exact Or.inr e
   have hNx:Rq.next s c=if k=0 then ({ s with ln:=Ln.start,ph:=0 },[.head { s.hd with length:=k },.fin]) else if 0<k then ({ s with ln:=Ln.start,ph:=2,left:=k.toNat },[.head { s.hd with length:=k }]) else ({ s with ln:=Ln.start,ph:=3,ck:=Ck.start },[.head { s.hd with length:=k }]):=by
    have hk':Rq.len s.hd=.inr k:=HK.o;have hp1:s.ph=1:=HPh.o;rw[HN.o,HTt.o];unfold Rq.line;rw[if_neg (by show ¬s.ph=0;omega),if_pos rfl];simp only[hk']
   have ab4:w3.heap.size+1<=w4.heap.size:=by rw[<-hzA];exact hs4
   have HP4:=H9 hP4;have HL4:=H9 hL4;have wz:=H9 afh;have acW:=H9 afi;have Tv:=H9 hadd;have HN4:=H9 Ka;have OJ:=H9 hNx
   have CO:Hid (w.heap.size<=w1.heap.size∧w1.heap.size<=w2.heap.size∧w2.heap.size<=w3.heap.size∧w3.heap.size+1<=w4.heap.size):=⟨hs1,hs2,hs3,ab4⟩;have p3:=hP4.c3;have pf3:=hP4.fz 3;clear hX hs1 hs2 hs3 hs4 hlt hA3 hzA hE3 Yy Ka hO4 EU hadd hP4 hL4 afh afi hNx ab4 c0 c2;have zh:Hid (∀k,((((gN (fun k=>S k∧k<w.heap.size) w k∧k≠g)∧¬D k)∧k<w2.heap.size)∨k=g)->¬(((So k∧k<w.heap.size)∨(((gN (fun k=>S k∧k<w.heap.size) w k∧k≠g)∧D k)∧k<w3.heap.size)∨w3.heap.size+1<=k)∧k<w4.heap.size)):=fun k e e2=>by
    have hX:=HX.o;have hlt:=hX.lt;obtain⟨s1,s2,s3,s4⟩:=CO.o;rcases e with e | e
    . rcases e2.1 with e2 | e2 | e2
      . rcases e.1.1.1 with e3 | e3
        . exact hX.apart k e3.1 e2.1
        . have:=e2.2;omega
      . exact e.1.2 e2.1.2
      . have:=e.2;omega
    . subst e;rcases e2.1 with e2 | e2 | e2
      . exact hX.apart k hX.gm e2.1
      . exact e2.1.1.2 rfl
      . omega
   have acX:Hid (∀k,((((gN (fun k=>S k∧k<w.heap.size) w k∧k≠g)∧¬D k)∧k<w2.heap.size)∨k=g)->S k∨w.heap.size<=k):=fun k e=>by
    rcases e with e | e
    . rcases e.1.1.1 with e3 | e3
      . exact Or.inl e3.1
      . exact Or.inr e3
    . rw[e];exact Or.inl HX.o.gm
   have aae:Hid (∀k,(((So k∧k<w.heap.size)∨(((gN (fun k=>S k∧k<w.heap.size) w k∧k≠g)∧D k)∧k<w3.heap.size)∨w3.heap.size+1<=k)∧k<w4.heap.size)->S k∨So k∨w.heap.size<=k):=fun k e=>by
    obtain⟨s1,s2,s3,s4⟩:=CO.o;rcases e.1 with e | e | e
    . exact Or.inr (Or.inl e.1)
    . rcases e.1.1.1 with e3 | e3
      . exact Or.inl e3.1
      . exact Or.inr (Or.inr e3)
    . exact Or.inr (Or.inr (by omega))
   by_cases hk0:k=0
   . subst hk0;go_wp2_with fail
     obtain⟨a1,a2,a3,a4⟩:=Tv.o;refine(JQ w4 _ xS cap4 n4 _ wz.o HN4.o.symm (by have:=HX.o.most;omega) a4 a3 (by have:=HX.o.sum;omega)).mono ?_;rintro e w5 ⟨CF,cap5,n5,rfl,U2,EA,xQ⟩;have HN5:=H9 U2;have tH:=H9 EA;have Xm:=H9 xQ
     clear U2 EA xQ a1 a2 a3 a4;go_wp2;go_ret;have hN:=OJ.o;first | rw[if_pos rfl] at hN | rw[if_pos trivial] at hN | skip
     obtain⟨s1,s2,s3,s4⟩:=CO.o;have hj2:Rq.join (Rq.join (es++[.head { s.hd with length:=0 }])++[.fin])=Rq.join (es++(Rq.next s c).2):=by rw[hN];exact Rq.KL es [_] [.fin]
     refine .mk CF cap5 n5 (fun k=>(((gN (fun k=>S k∧k<w.heap.size) w k∧k≠g)∧¬D k)∧k<w2.heap.size)∨k=g) _ rfl (by rw[<-hj2];exact HN5.o) ?_ (by rw[<-hj2];exact tH.o) ?_ acX.o ?_ ?_
     . rw[hN];refine⟨Or.inr rfl,_,_,_,_,HP4.o.turns Xm.o (fun e=>zh.o g (Or.inr rfl) e),.Jp gl2 rfl ((HL4.o.turns Xm.o (fun k e e2=>zh.o k (Or.inl e) e2)).mono (fun k _ e=>⟨Or.inl e,e.1.1.2⟩))⟩
     . intro k e e2;rcases e2 with e2 | e2 | e2
       . exact zh.o k e e2
       . exact e2
       . rcases e with e | e
         . have:=e.2;omega
         . have:=HX.o.lt;omega
     . intro k e;rcases e with e | e | e
       . exact aae.o k e
       . exact e.elim
       . exact Or.inr (Or.inr (by omega))
     . have h:=acW.o.trans (Xm.o.mono (S':=fun k=>(S k∨So k)∨w.heap.size<=k) (fun k e=>by
        rcases aae.o k e with e | e | e
        . exact Or.inl (Or.inl e)
        . exact Or.inl (Or.inr e)
        . exact Or.inr e)) (fun _ e _=>e)
       exact⟨h.os,h.tape,h.output,h.size,fun k hk hn=>h.block k hk (fun e=>by
        rcases e with e | e
        . exact hn e
        . omega)⟩
   . have tk:(k==0)=false:=aS.2 hk0;by_cases hk1:0<k
     . obtain⟨m,rfl⟩:∃m:Nat,k=(m:Int):=⟨k.toNat,by omega⟩;have YA:=H9 (JR w4 m (by omega));have HM:=H9 hk1;go_wp2_with fail
       refine YA.o.mono ?_;rintro e w5 ⟨rfl,A9,hb5⟩;have Na:=HP4.o.stay hb5;have q3:=Na.c3;have qf3:=Na.fz 3;have HP5:=H9 Na;have qY:=H9 A9;have PD:=H9 hb5
       clear Na A9 hb5;go_wp2;go_ret;have hN:=OJ.o;rw[if_neg hk0,if_pos HM.o] at hN;obtain⟨s1,s2,s3,s4⟩:=CO.o;have hlt:=HX.o.lt;have CQ:=Turns.setCell (fun k=>k=g) w5 ⟨g,3,none⟩ (.iface 206 (.pointer (some ⟨w4.heap.size,0,none⟩))) rfl;refine .mk xS cap4 n4 (fun k=>((((gN (fun k=>S k∧k<w.heap.size) w k∧k≠g)∧¬D k)∧k<w2.heap.size)∨k=g)∨k=w4.heap.size) _ rfl (by rw[hN];exact HN4.o) ?_ (by rw[hN];exact(wz.o.stay PD.o).turns CQ (fun k e e2=>zh.o k (Or.inr e2) e)) ?_ ?_ aae.o ?_
       . rw[hN];refine⟨Or.inl (Or.inr rfl),_,_,_,_,HP5.o.s3 _,.at2 gl2 w4.heap.size rfl (((HL4.o.turns (Turns.of_below (S:=fun _=>False) PD.o) (fun _ _ e=>e)).turns CQ (fun k e=>e.1.1.2)).mono (fun k _ e=>⟨⟨Or.inl (Or.inl e),e.1.1.2⟩,by have:=e.2;omega⟩)) ⟨Or.inr rfl,by omega⟩ ?_⟩;have:=CQ.row qY.o (by omega);rw[this];simp
       . intro k e e2;rcases e with e | e
         . exact zh.o k e e2
         . have:=e2.2;omega
       . intro k e;rcases e with e | e
         . exact acX.o k e
         . exact Or.inr (by omega)
       . have h:=acW.o.trans ((Turns.of_below (S:=fun k=>(S k∨So k)∨w.heap.size<=k) PD.o).trans (CQ.mono (S':=fun k=>(S k∨So k)∨w.heap.size<=k) (fun k e=>by rw[e];exact Or.inl (Or.inl HX.o.gm))) (fun _ e _=>e)) (fun _ e _=>e);exact⟨h.os,h.tape,h.output,h.size,fun k hk hn=>h.block k hk (fun e=>by
          rcases e with e | e
          . exact hn e
          . omega)⟩
     . obtain rfl:k=-1:=by omega
       have YA:=H9 (Gb w4);go_wp2_with fail
       refine YA.o.mono ?_;rintro e w5 ⟨gb,rfl,A9,hb5⟩;have Na:=HP4.o.stay hb5;have q3:=Na.c3;have qf3:=Na.fz 3;have HP5:=H9 Na;have qY:=H9 A9;have PD:=H9 hb5
       clear Na A9 hb5;go_wp2;go_ret;have hN:=OJ.o;rw[if_neg (by omega),if_neg (by omega)] at hN;obtain⟨s1,s2,s3,s4⟩:=CO.o;have hlt:=HX.o.lt;have CQ:=Turns.setCell (fun k=>k=g) w5 ⟨g,3,none⟩ (.iface 204 (.pointer (some ⟨gb,0,none⟩))) rfl;refine .mk xS cap4 n4 (fun k=>((((gN (fun k=>S k∧k<w.heap.size) w k∧k≠g)∧¬D k)∧k<w2.heap.size)∨k=g)∨w4.heap.size<=k) _ rfl (by rw[hN];exact HN4.o) ?_ (by rw[hN];exact(wz.o.stay PD.o).turns CQ (fun k e e2=>zh.o k (Or.inr e2) e)) ?_ ?_ aae.o ?_
       . rw[hN];refine⟨Or.inl (Or.inr rfl),_,_,_,_,HP5.o.s3 _,.at3 gl2 gb (fun k=>w4.heap.size<=k) rfl (((HL4.o.turns (Turns.of_below (S:=fun _=>False) PD.o) (fun _ _ e=>e)).turns CQ (fun k e=>e.1.1.2)).mono (fun k _ e=>⟨⟨Or.inl (Or.inl e),e.1.1.2⟩,by have:=e.2;omega⟩)) ((qY.o.turns CQ (fun k e e2=>by omega)).mono (fun k _ e=>⟨⟨Or.inr e,by omega⟩,e⟩))⟩
       . intro k e e2;rcases e with e | e
         . exact zh.o k e e2
         . have:=e2.2;omega
       . intro k e;rcases e with e | e
         . exact acX.o k e
         . exact Or.inr (by omega)
       . have h:=acW.o.trans ((Turns.of_below (S:=fun k=>(S k∨So k)∨w.heap.size<=k) PD.o).trans (CQ.mono (S':=fun k=>(S k∨So k)∨w.heap.size<=k) (fun k e=>by rw[e];exact Or.inl (Or.inl HX.o.gm))) (fun _ e _=>e)) (fun _ e _=>e);exact⟨h.os,h.tape,h.output,h.size,fun k hk hn=>h.block k hk (fun e=>by
          rcases e with e | e
          . exact hn e
          . omega)⟩
theorem JX (w:World)(S So:Nat->Prop)(g:Nat)(s:Rq.St)(c:UInt8)(ao:ak)(cap n:Nat)(es:List Rq.Ev)(h:jI w S g s)(hG:Rq.Good s)(hp:s.ph=0∨s.ph=1)(hO:nW w So ao cap es)(hd:∀k,S k->¬So k)(hn:es.length=n)(hl:n<=90000)(hj:Rq.Joined es)(hf:Rq.Full es)(hz:Rq.jE es<=90000):
 Calls prog 63 #[.pointer (some ⟨g,0,none⟩),.slice ao n cap,.int .u8 c.toNat] w fun e w'=>nK w S So g s c es e w':=by
 by_cases hc:(Ln.next s.ln c).code=0
 . cases he:Ln.ends s.ln c
   . exact Gj w S So g s c ao cap n es h hG hp hc he hO hd hn hj
   . exact JW w S So g s c ao cap n es h hG hp he hO hd hn hl hj hf hz
 . exact Gi w S So g s c ao cap n es h hG hp hc hO hd hn hl hj hf hz
theorem JY (w:World)(S So:Nat->Prop)(g:Nat)(s:Rq.St)(c:UInt8)(ao:ak)(cap n:Nat)(es:List Rq.Ev)(h:jI w S g s)(hG:Rq.Good s)(hp:s.ph=2∨s.ph=3)(hO:nW w So ao cap es)(hd:∀k,S k->¬So k)(hn:es.length=n)(hl:n<=90000)(hj:Rq.Joined es)(hf:Rq.Full es)(hz:Rq.jE es<=90000):
 Calls prog 64 #[.pointer (some ⟨g,0,none⟩),.slice ao n cap,.int .u8 c.toNat] w fun e w'=>nK w S So g s c es e w':=by
 rcases hp with hp | hp
 . exact Fg w S So g s c ao cap n es h hG hp hO hd hn hl hj hf hz
 . by_cases hk:s.ck.ph=1
   . exact Gd w S So g s c ao cap n es h hG hp hk hO hd hn hl hj hf hz
   . exact Gf w S So g s c ao cap n es h hG hp hk hO hd hn hl hj hf hz
structure Fy (w:World)(S:Nat->Prop)(g:Nat)(s:Rq.St)(l:av)(k:Nat)(ao:ak)(cap n:Nat)(wr:World):Prop where
 len:n=(Rq.join (Rq.outs s (l.take k))).length
 two:∃S' So',jI wr S' g (Rq.fold s (l.take k))∧nW wr So' ao cap (Rq.join (Rq.outs s (l.take k)))∧(∀i,S' i->¬So' i)∧(∀i,S' i->S i∨w.heap.size<=i)∧(∀i,So' i->S i∨w.heap.size<=i)
 turns:Turns S w wr
inductive PE (w:World)(S:Nat->Prop)(g:Nat)(s:Rq.St)(l:av)(e:Ending)(w':World):Prop
 | mk (ao:ak) (cap n:Nat) (S' So':Nat->Prop) (he:e=.returned (.slice ao n cap)) (hn:n=(Rq.join (Rq.outs s l)).length) (hR:jI w' S' g (Rq.fold s l)) (hO:nW w' So' ao cap (Rq.join (Rq.outs s l))) (hd:∀i,S' i->¬So' i) (hS:∀i,S' i->S i∨w.heap.size<=i) (hSo:∀i,So' i->S i∨w.heap.size<=i) (hT:Turns S w w')
theorem Fy.done {w:World}{S:Nat->Prop}{g:Nat}{s:Rq.St}{l:av}{k:Nat}{ao:ak}{cap n:Nat}{wr:World}(h:Fy w S g s l k ao cap n wr)(ho:Rq.outs s l=Rq.outs s (l.take k))(hf:Rq.fold s l=Rq.fold s (l.take k)):PE w S g s l (.returned (.slice ao n cap)) wr:=by
 obtain⟨S',So',h1,h2,h3,h4,h5⟩:=h.two;exact .mk ao cap n S' So' rfl (by rw[ho];exact h.len) (by rw[hf];exact h1) (by rw[ho];exact h2) h3 h4 h5 h.turns
theorem Fy.step {w:World}{S:Nat->Prop}{g:Nat}{s:Rq.St}{l:av}{k:Nat}{S' So':Nat->Prop}{wr w':World}{jy:ak}{cap2 n2:Nat}(hk:k<l.length)(hS:∀i,S' i->S i∨w.heap.size<=i)(hSo:∀i,So' i->S i∨w.heap.size<=i)(hT:Turns S w wr)
 (h:nK wr S' So' g (Rq.fold s (l.take k)) l[k] (Rq.join (Rq.outs s (l.take k))) (.returned (.slice jy n2 cap2)) w'):Fy w S g s l (k+1) jy cap2 n2 w':=by
 obtain⟨jQ,gX,n3,S3,So3,he,hn,hR,hO,hd,M7,aiQ,pF⟩:=h;injection he with he;injection he with e1 e2 e3;subst e1;subst e2;subst e3;have ht:l.take (k+1)=l.take k++[l[k]]:=bO hk;have ho:Rq.join (Rq.outs s (l.take (k+1)))=Rq.join (Rq.join (Rq.outs s (l.take k))++(Rq.next (Rq.fold s (l.take k)) l[k]).2):=by
  rw[ht,Rq.AO,Rq.qQ]
 have hfo:Rq.fold s (l.take (k+1))=(Rq.next (Rq.fold s (l.take k)) l[k]).1:=by rw[ht,Rq.oJ]
 have hsz:=hT.size;refine⟨by rw[ho];exact hn,⟨S3,So3,by rw[hfo];exact hR,by rw[ho];exact hO,hd,fun i e=>?_,fun i e=>?_⟩,hT.trans pF (fun i e hi=>?_)⟩
 . rcases M7 i e with e | e
   . exact hS i e
   . exact Or.inr (by omega)
 . rcases aiQ i e with e | e | e
   . exact hS i e
   . exact hSo i e
   . exact Or.inr (by omega)
 . rcases e with e | e
   . rcases hS i e with e | e
     . exact e
     . omega
   . rcases hSo i e with e | e
     . exact e
     . omega
theorem MH (w:World)(S:Nat->Prop)(g:Nat)(s:Rq.St)(l:av)(bo:ak)(gK n:Nat)(h:jI w S g s)(hG:Rq.Good s)(hB:iH w bo gK l)(rD:l≠[]->∀a,bo=some a->¬S a.block)(hn:l.length=n)(hl:n<=40000):
 Calls prog 34 #[.pointer (some ⟨g,0,none⟩),.slice bo n gK] w fun e w'=>PE w S g s l e w':=by
 subst hn;have HB:=H9 hB;have HR:=H9 h;have HG:=H9 hG;have YA:=H9 rD
 clear hB h hG rD;go_enter func34,ntmps34;go_wp2;go_loopw [5,10] (fun vo vi wr=>∃(k:Nat) (ao:ak) (cap n:Nat),k<=l.length∧vi=.int .i64 k∧vo=.slice ao n cap∧Fy w S g s l k ao cap n wr) (fun _ vi _=>l.length-(intOf vi).toNat)
 case atStart =>
  refine⟨0,none,0,0,aA _,rfl,rfl,⟨rfl,⟨S,fun _=>False,HR.o,.bare,fun _ _ e=>e,fun _ e=>Or.inl e,fun _ e=>e.elim⟩,Turns.refl _ _⟩⟩
 case round =>
  obtain⟨k,ao,cap,n,hk,rfl,rfl,hF⟩:=hrel;have HF:=H9 hF;clear hF;by_cases hlt:k<l.length
  . obtain⟨bb,oo,rfl,_⟩:=HB.o.lit (by omega);have hne:l≠[]:=by intro e;subst e;simp at hlt
    have hbc:=(HB.o.turns HF.o.turns (fun a e=>YA.o hne a e)).lit (by omega);obtain⟨b2,o2,he2,hc2⟩:=hbc;injection he2 with he2;injection he2 with hb2 ho2;subst hb2;subst ho2;have ck:=hc2 k hlt;have hlt':(k:Int)<l.length:=by omega
    have hcap:=HB.o.1;obtain⟨S',So',hR',Ao,hd',hS',Ga⟩:=HF.o.two;have hG':Rq.Good (Rq.fold s (l.take k)):=HG.o.fold _;have nO:=Rq.Qw s (l.take k);have htk:(l.take k).length<=40000:=by rw[bY];omega
    have hnl:(Rq.join (Rq.outs s (l.take k))).length=n:=HF.o.len.symm;have HD:=H9 (Ec wr S' g (Rq.fold s (l.take k)) hR');have IK:Hid (∀(jy:ak) (cap2 n2:Nat) (w':World),nK wr S' So' g (Rq.fold s (l.take k)) l[k] (Rq.join (Rq.outs s (l.take k))) (.returned (.slice jy n2 cap2)) w'->Fy w S g s l (k+1) jy cap2 n2 w'):=fun jy cap2 n2 w' hfs=>Fy.step hlt hS' Ga HF.o.turns hfs;by_cases h4:(Rq.fold s (l.take k)).ph=4
    . rw[aI h4] at HD;have hdr:=Rq.lT (l.drop k) (Rq.fold s (l.take k)) h4;have HDn:Hid (Rq.outs s l=Rq.outs s (l.take k)∧Rq.fold s l=Rq.fold s (l.take k)):=by
       constructor
       . conv=>lhs;rw[<-bX k l,Rq.jF,hdr.1,bW]
       . conv=>lhs;rw[<-bX k l,Rq.jM,hdr.2]
      generalize l[k]=c at *;clear hR' Ao hd' hG' nO htk hnl hc2 h4 hdr IK hS' Ga;go_wp2_with (go_at_call 33;refine HD.o.mono ?_;rintro e w1 ⟨rfl,hw⟩;subst hw)
      go_ret;exact HF.o.done HDn.o.1 HDn.o.2
    . rw[aJ h4] at HD;have hph:(Rq.fold s (l.take k)).ph=0∨(Rq.fold s (l.take k)).ph=1∨(Rq.fold s (l.take k)).ph=2∨(Rq.fold s (l.take k)).ph=3:=by have:=hG'.ph;omega
      by_cases acZ:(Rq.fold s (l.take k)).ph=0∨(Rq.fold s (l.take k)).ph=1
      . have HC:=H9 (JX wr S' So' g _ l[k] ao cap n _ hR' hG' acZ Ao hd' hnl (by omega) nO.2.2.2 nO.2.2.1 (by omega));have c3:wr.cell? ⟨g,3,none⟩=some .nilIface:=by
         obtain⟨_,lp,hp,bd,code,hP,hI⟩:=hR';cases hI with
         | dead c hc h=>omega
         | Jp gl h L=>exact hP.c3
         | K6 gl gh D h L H=>exact hP.c3
         | at2 gl gb h L hb B=>omega
         | at3 gl gb D h L B=>omega
        generalize l[k]=c at *;generalize Rq.fold s (l.take k)=sk at *;clear hR' Ao hd' hG' nO htk hnl hc2 h4 acZ hph hS' Ga;go_wp2_with (first
         | (go_at_call 33;refine HD.o.mono ?_;rintro e w1 ⟨rfl,hw⟩;subst hw)
         | (go_at_call 63;refine HC.o.mono ?_;rintro e w2 hst;obtain⟨jy,cap2,n2,S2,So2,he,r⟩:=id hst;subst he;have Ap:=H9 hst;clear hst r))
        go_roundw
        case rel=>exact⟨k+1,jy,cap2,n2,by omega,by go_num,rfl,IK.o _ _ _ _ Ap.o⟩
        case measure=>simp[intOf];omega
      . have afk:(Rq.fold s (l.take k)).ph=2∨(Rq.fold s (l.take k)).ph=3:=by omega
        have HC:=H9 (JY wr S' So' g _ l[k] ao cap n _ hR' hG' afk Ao hd' hnl (by omega) nO.2.2.2 nO.2.2.1 (by omega));obtain⟨tt,vv,c3⟩:∃tt vv,wr.cell? ⟨g,3,none⟩=some (.iface tt vv):=by
         obtain⟨_,lp,hp,bd,code,hP,hI⟩:=hR';cases hI with
         | dead c hc h=>omega
         | Jp gl h L=>omega
         | K6 gl gh D h L H=>omega
         | at2 gl gb h L hb B=>exact⟨_,_,hP.c3⟩
         | at3 gl gb D h L B=>exact⟨_,_,hP.c3⟩
        generalize l[k]=c at *;generalize Rq.fold s (l.take k)=sk at *;clear hR' Ao hd' hG' nO htk hnl hc2 h4 acZ afk hph hS' Ga;go_wp2_with (first
         | (go_at_call 33;refine HD.o.mono ?_;rintro e w1 ⟨rfl,hw⟩;subst hw)
         | (go_at_call 64;refine HC.o.mono ?_;rintro e w2 hst;obtain⟨jy,cap2,n2,S2,So2,he,r⟩:=id hst;subst he;have Ap:=H9 hst;clear hst r))
        go_roundw
        case rel=>exact⟨k+1,jy,cap2,n2,by omega,by go_num,rfl,IK.o _ _ _ _ Ap.o⟩
        case measure=>simp[intOf];omega
  . obtain rfl:k=l.length:=by omega
    go_wp2;go_ret;exact HF.o.done (by rw[bP]) (by rw[bP])
end Go.Proofs.YtjmndjmhjleabaaGreatDoor