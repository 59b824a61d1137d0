/- Small texts, one behind the other: CkB, CkC, CkFeed. -/
import Derived.Test.YtjmndjmhjleabaaGreatDoorAl
import Derived.Test.YtjmndjmhjleabaaGreatDoorAm
import Derived.Test.YtjmndjmhjleabaaGreatDoorPk25
import Derived.Test.YtjmndjmhjleabaaGreatDoorPk4
import Derived.Test.YtjmndjmhjleabaaGreatDoorPk5
import Derived.Test.YtjmndjmhjleabaaGreatDoorPk23
import Derived.Test.YtjmndjmhjleabaaGreatDoorPk31
set_option maxHeartbeats 1600000
open Go.Proofs.Tryz
namespace Go.Proofs.YtjmndjmhjleabaaGreatDoor
open Go.RowKit
theorem RX (c:UInt8)(s:ay):∃a r b,Fd.cutV c s=.tuple #[.string a,.string r,.bool b]∧a.data.toList=s.data.toList.take (Fd.at_ c s.data.toList)∧a.size<=s.size:=by
 have hl:s.data.toList.length=s.size:=by rw[aO];rfl
 unfold Fd.cutV;by_cases h:Fd.at_ c s.data.toList=s.size
 . rw[if_pos h];exact⟨s,_,_,rfl,by rw[h,<-hl,bP],aM _⟩
 . rw[if_neg h];exact⟨_,_,_,rfl,by rw[Lib.extract_data];simp,by simp;omega⟩
inductive Zd (S:Nat->Prop)(g gl:Nat)(nx lf rm fd code:Int)(ln:Ln.St)(n:Int)(ok:Bool)(w:World)(e:Ending)(w':World):Prop
 | none (t:Turns S w w') (h:ok=false) (he:e=.returned (.int .i64 7)) (r:iO w' S g gl nx lf rm fd code ln)
 | long (t:Turns S w w') (h:ok=true) (h1:rm<n) (he:e=.returned (.int .i64 4)) (r:iO w' S g gl nx lf rm fd code ln)
 | last (t:Turns S w w') (h:ok=true) (h1:n<=rm) (h2:n=0) (he:e=.returned (.int .i64 0)) (r:iO w' S g gl 2 lf rm fd code ln)
 | more (t:Turns S w w') (h:ok=true) (h1:n<=rm) (h2:0<n) (he:e=.returned (.int .i64 0)) (r:iO w' S g gl 1 n (rm-n) fd code ln)
inductive abH (S:Nat->Prop)(g gl:Nat)(nx lf rm fd code:Int)(ln:Ln.St)(s:av)(w:World)(e:Ending)(w':World):Prop
 | bad (t:Turns S w w') (h:s≠[]) (he:e=.returned (.int .i64 5)) (r:iO w' S g gl nx lf rm fd code ln)
 | good (t:Turns S w w') (h:s=[]) (he:e=.returned (.int .i64 0)) (r:iO w' S g gl 0 lf rm fd code ln)
inductive V3 (S:Nat->Prop)(g gl:Nat)(nx lf rm fd code:Int)(ln:Ln.St)(s:av)(w:World)(e:Ending)(w':World):Prop
 | many (t:Turns S w w') (h:fd=16) (he:e=.returned (.int .i64 8)) (r:iO w' S g gl nx lf rm fd code ln)
 | one (t:Turns S w w') (h:fd≠16) (he:e=.returned (.int .i64 ((Fd.of s).code:Int))) (r:iO w' S g gl nx lf rm (fd+1) code ln)
section
variable {w:World} {S:Nat->Prop} {g gl:Nat} {nx lf rm fd code:Int} {ln:Ln.St}
theorem NN (h:iO w S g gl nx lf rm fd code ln)(s:ay)(hs:s.size<=200)(hr0:0<=rm)(hr1:rm<=4000):
 Calls prog 340 #[.pointer (some ⟨g,0,none⟩),.string s] w fun e w'=>Zd S g gl nx lf rm fd code ln (Ck.size s.data.toList).1 (Ck.size s.data.toList).2 w e w':=by
 obtain⟨n0,n1⟩:=D7 s.data.toList;obtain⟨a,r,b,hcv,ha,haz⟩:=RX 59 s;have HC:=H9 (xG s 59 w (by unfold maxLen;omega));rw[hcv] at HC;have HT:=H9 (fun W=>tY a W (by omega));have hsz:Ck.size s.data.toList=Ch.number 16 6 (Lib.trimS a.data.toList Ch.ws):=by unfold Ck.size;rw[ha]
 have htl:=vX a.data.toList;rw[Ch.iD] at htl;have HN:=H9 (fun W=>zJ ⟨(Lib.trimS a.data.toList Ch.ws).toArray⟩ W (by show(Lib.trimS _ _).toArray.size<=maxLen;rw[bM];unfold maxLen;omega));have hdat:(⟨(Lib.trimS a.data.toList Ch.ws).toArray⟩:ay).data.toList=Lib.trimS a.data.toList Ch.ws:=rfl;rw[hdat,<-hsz] at HN;have HR:=H9 h;clear h hcv ha hsz hdat htl;generalize (⟨(Lib.trimS a.data.toList Ch.ws).toArray⟩:ay)=tv at HT HN;generalize (Ck.size s.data.toList).1=n at *;generalize (Ck.size s.data.toList).2=ok at *;cases ok
 . go_enter func340,ntmps340;go_wp2_with fail
   refine HC.o.mono ?_;rintro e w1 ⟨rfl,hd⟩;have B1:=H9 (iU hd);clear hd HC;go_wp2_with fail
   refine(HT.o _).mono ?_;rintro e w2 ⟨rfl,hb2⟩;have B2:=H9 (then_ B1.out hb2);clear hb2 B1 HT;go_wp2_with fail
   refine(HN.o _).mono ?_;rintro e w3 ⟨rfl,hw⟩;subst hw;go_wp2;go_ret;exact .none (Turns.of_below B2.out) rfl rfl (HR.o.stay B2.out)
 . by_cases h4:rm<n
   . have t4:decide (n > rm)=true:=aI h4;go_enter func340,ntmps340;go_wp2_with fail
     refine HC.o.mono ?_;rintro e w1 ⟨rfl,hd⟩;have B1:=H9 (iU hd);clear hd HC;go_wp2_with fail
     refine(HT.o _).mono ?_;rintro e w2 ⟨rfl,hb2⟩;have B2:=H9 (then_ B1.out hb2);have R2:=H9 (HR.o.stay B2.out);clear hb2 B1 HT HR;have c3:w2.cell? ⟨g,3,none⟩=some (.int .i64 rm):=R2.out.cell 3 (by decide);go_wp2_with fail
     refine(HN.o _).mono ?_;rintro e w3 ⟨rfl,hw⟩;subst hw;go_wp2;go_ret;exact .long (Turns.of_below B2.out) rfl h4 rfl R2.out
   . have t4:decide (n > rm)=false:=aJ h4;by_cases hz:n=0
     . subst hz;go_enter func340,ntmps340;go_wp2_with fail
       refine HC.o.mono ?_;rintro e w1 ⟨rfl,hd⟩;have B1:=H9 (iU hd);clear hd HC;go_wp2_with fail
       refine(HT.o _).mono ?_;rintro e w2 ⟨rfl,hb2⟩;have B2:=H9 (then_ B1.out hb2);have R2:=H9 (HR.o.stay B2.out);clear hb2 B1 HT HR;have c3:w2.cell? ⟨g,3,none⟩=some (.int .i64 rm):=R2.out.cell 3 (by decide);have c1:w2.cell? ⟨g,1,none⟩=some (.int .i64 nx):=R2.out.cell 1 (by decide);have f1:w2.frozen? ⟨g,1,none⟩=false:=R2.out.frozen 1;go_wp2_with fail
       refine(HN.o _).mono ?_;rintro e w3 ⟨rfl,hw⟩;subst hw;go_wp2;go_ret;exact .last ((Turns.of_below B2.out).trans (R2.out.turn 1 _) (fun _ e _=>e)) rfl hr0 rfl rfl (R2.out.next 2)
     . have tz:(n==0)=false:=aS.2 hz;go_enter func340,ntmps340;go_wp2_with fail
       refine HC.o.mono ?_;rintro e w1 ⟨rfl,hd⟩;have B1:=H9 (iU hd);clear hd HC;go_wp2_with fail
       refine(HT.o _).mono ?_;rintro e w2 ⟨rfl,hb2⟩;have B2:=H9 (then_ B1.out hb2);have R2:=H9 (HR.o.stay B2.out);clear hb2 B1 HT HR;have c3:w2.cell? ⟨g,3,none⟩=some (.int .i64 rm):=R2.out.cell 3 (by decide);have c1:w2.cell? ⟨g,1,none⟩=some (.int .i64 nx):=R2.out.cell 1 (by decide);have c2:w2.cell? ⟨g,2,none⟩=some (.int .i64 lf):=R2.out.cell 2 (by decide);have f1:w2.frozen? ⟨g,1,none⟩=false:=R2.out.frozen 1;have f2:w2.frozen? ⟨g,2,none⟩=false:=R2.out.frozen 2;have f3:w2.frozen? ⟨g,3,none⟩=false:=R2.out.frozen 3;go_wp2_with fail
       refine(HN.o _).mono ?_;rintro e w3 ⟨rfl,hw⟩;subst hw;go_wp2;go_ret;exact .more ((Turns.of_below B2.out).trans ((R2.out.turn 1 _).trans (((R2.out.next 1).turn 2 _).trans (((R2.out.next 1).left n).turn 3 _) (fun _ e _=>e)) (fun _ e _=>e)) (fun _ e _=>e)) rfl (by omega) (by omega) rfl (((R2.out.next 1).left n).room (rm-n))
theorem RY (h:iO w S g gl nx lf rm fd code ln)(s:ay):
 Calls prog 341 #[.pointer (some ⟨g,0,none⟩),.string s] w fun e w'=>abH S g gl nx lf rm fd code ln s.data.toList w e w':=by
 have HR:=H9 h;have c1:w.cell? ⟨g,1,none⟩=some (.int .i64 nx):=h.cell 1 (by decide);have f1:w.frozen? ⟨g,1,none⟩=false:=h.frozen 1;clear h;have HL:=H9 (Lib.toList_data s);by_cases hz:s.data.toList=[]
 . obtain rfl:s=⟨#[]⟩:=Ch.empty_eq s (by rw[<-Ch.iD,hz];rfl);clear hz HL;go_enter func341,ntmps341;go_wp2;go_ret;exact .good (HR.o.turn 1 _) rfl rfl (HR.o.next 0)
 . have tz:(s.toList==[])=false:=by rw[aS,HL.o];exact hz
   have HZ:=H9 hz;clear hz;go_enter func341,ntmps341;go_wp2;go_ret;exact .bad (Turns.refl _ _) HZ.o rfl HR.o
theorem KZ (h:iO w S g gl nx lf rm fd code ln)(s:ay)(hs:s.size<=200)(hf0:0<=fd)(hf1:fd<=16):
 Calls prog 342 #[.pointer (some ⟨g,0,none⟩),.string s] w fun e w'=>V3 S g gl nx lf rm fd code ln s.data.toList w e w':=by
 have HR:=H9 h;have c4:w.cell? ⟨g,4,none⟩=some (.int .i64 fd):=h.cell 4 (by decide);have f4:w.frozen? ⟨g,4,none⟩=false:=h.frozen 4;have HP:=H9 (fun W=>xJ s W (by omega));unfold Fd.val at HP;have HR4:=H9 (h.fields (fd+1));have Ze:=H9 (h.turn 4 (.int .i64 (fd+1)));clear h;by_cases h16:fd=16
 . subst h16;go_enter func342,ntmps342;go_wp2;go_ret;exact .many (Turns.refl _ _) rfl rfl HR.o
 . have t16:(fd==16)=false:=aS.2 h16;generalize (⟨(Fd.of s.data.toList).name.toArray⟩:ay)=nm at HP;generalize (⟨(Fd.of s.data.toList).value.toArray⟩:ay)=vl at HP;generalize hk:(Fd.of s.data.toList).code=k at HP;have HK:=H9 hk;clear hk;go_enter func342,ntmps342;go_wp2_with fail
   refine(HP.o _).mono ?_;rintro e w1 ⟨rfl,hb1⟩;have B1:=H9 hb1;clear hb1 HP;go_wp2;go_ret;have hb2:=B1.out.alloc B1.out.size (.cells #[.string nm,.string vl] 111);exact .one (Ze.o.trans (Turns.of_below hb2) (fun _ e _=>e)) h16 (by rw[HK.o];rfl) (HR4.o.stay hb2)
end
inductive kX (S:Nat->Prop)(g gl:Nat)(ln:Ln.St)(s:Ck.St)(t:av)(w:World)(e:Ending)(w':World):Prop
 | mk (nx lf rm fd:Int) (hT:Turns S w w') (he:e=.returned (.tuple #[.bool (decide ((Ck.line s t).code=0∧(Ck.line s t).ph=4)),.int .i64 ((Ck.line s t).code:Int)]))
  (r:iO w' S g gl nx lf rm fd 0 ln) (h:Ck.pc (Ck.line s t)=0->nx=(Ck.nx (Ck.line s t):Int)∧lf=(Ck.lf (Ck.line s t):Int)∧rm=4000-((Ck.line s t).total:Int)∧fd=((Ck.line s t).count:Int))
theorem kX.of {S:Nat->Prop}{g gl:Nat}{ln:Ln.St}{s s':Ck.St}{t:av}{w:World}{e:Ending}{w':World}(hl:Ck.line s t=s')(b:Bool)(k:Nat)(nx lf rm fd:Int)(hT:Turns S w w')(he:e=.returned (.tuple #[.bool b,.int .i64 (k:Int)]))
 (hb:b=decide (s'.code=0∧s'.ph=4)) (hk:s'.code=k) (r:iO w' S g gl nx lf rm fd 0 ln) (h:Ck.pc s'=0->nx=(Ck.nx s':Int)∧lf=(Ck.lf s':Int)∧rm=4000-(s'.total:Int)∧fd=(s'.count:Int)):kX S g gl ln s t w e w':=by
 subst hl;subst hb;subst hk;exact .mk nx lf rm fd hT he r h
section
variable {w:World} {S:Nat->Prop} {g gl:Nat} {ln:Ln.St} {s:Ck.St}
theorem take_size (hg:Ck.Good s)(h0:s.ph=0)(hc:s.code=0)(h:iO w S g gl 0 0 (4000-(s.total:Int)) (s.count:Int) 0 ln)(t:ay)(ht:t.size<=200):
 Calls prog 339 #[.pointer (some ⟨g,0,none⟩),.string t] w fun e w'=>kX S g gl ln s t.data.toList w e w':=by
 have hto:=hg.total;have HS:=H9 (NN h t ht (by omega) (by omega));have c1:w.cell? ⟨g,1,none⟩=some (.int .i64 0):=h.cell 1 (by decide);have hn:=(D7 t.data.toList).1;have HL:Hid (Ck.line s t.data.toList=(if (Ck.size t.data.toList).2=false then { s with code:=7 } else if 4000<s.total+(Ck.size t.data.toList).1.toNat then { s with code:=4 } else if (Ck.size t.data.toList).1.toNat=0 then { s with ph:=3 } else { s with ph:=1,left:=(Ck.size t.data.toList).1.toNat,total:=s.total+(Ck.size t.data.toList).1.toNat })):=by
  unfold Hid Ck.line;rw[if_pos h0]
 clear h;generalize (Ck.size t.data.toList).1=n at *;generalize (Ck.size t.data.toList).2=ok at *;have H0:=H9 h0;have HC:=H9 hc;have HTo:=H9 hto;have HN:=H9 hn
 clear h0 hc hto hn hg ht;go_enter func339,ntmps339;go_wp2_with fail
 refine HS.o.mono ?_;clear HS c1;rintro e w1 (⟨hT,h1,he,r⟩ | ⟨hT,h1,h2,he,r⟩ | ⟨hT,h1,h2,h3,he,r⟩ | ⟨hT,h1,h2,h3,he,r⟩)
 . subst he;have HT:=H9 hT;have HR:=H9 r;have HO:=H9 h1
   clear hT r h1;go_wp2;go_ret2;have hl:=HL.o;rw[if_pos HO.o] at hl;exact kX.of hl false 7 _ _ _ _ HT.o rfl (by simp) rfl HR.o (fun e=>absurd (Ck.lX.1 e).1 (by show(7:Nat)≠0;omega))
 . subst he;have HT:=H9 hT;have HR:=H9 r;have HO:=H9 h1;have H2:=H9 h2
   clear hT r h1 h2;go_wp2;go_ret2;have hl:=HL.o;have h2:=H2.o;have hn:=HN.o
   rw[if_neg (by rw[HO.o];simp),if_pos (by omega)] at hl;exact kX.of hl false 4 _ _ _ _ HT.o rfl (by simp) rfl HR.o (fun e=>absurd (Ck.lX.1 e).1 (by show(4:Nat)≠0;omega))
 . subst he;have HT:=H9 hT;have HR:=H9 r;have HO:=H9 h1;have H2:=H9 h2;have H3:=H9 h3
   clear hT r h1 h2 h3;go_wp2;go_ret2;have hl:=HL.o;have h2:=H2.o;have h3:=H3.o;have hn:=HN.o
   rw[if_neg (by rw[HO.o];simp),if_neg (by omega),if_pos (by omega)] at hl;exact kX.of hl false 0 _ _ _ _ HT.o rfl (by simp) HC.o HR.o (fun e=>⟨rfl,rfl,rfl,rfl⟩)
 . subst he;have HT:=H9 hT;have HR:=H9 r;have HO:=H9 h1;have H2:=H9 h2;have H3:=H9 h3
   clear hT r h1 h2 h3;go_wp2;go_ret2;have hl:=HL.o;have h2:=H2.o;have h3:=H3.o;have hn:=HN.o;have hto:=HTo.o
   rw[if_neg (by rw[HO.o];simp),if_neg (by omega),if_neg (by omega)] at hl;exact kX.of hl false 0 _ _ _ _ HT.o rfl (by simp) HC.o HR.o (fun e=>⟨rfl,(by show n=((if (1:Nat)=1 then n.toNat else 0:Nat):Int);rw[if_pos rfl];omega),(by show 4000-(s.total:Int)-n=4000-((s.total+n.toNat:Nat):Int);omega),rfl⟩)
theorem V4 (h2:s.ph=2)(hc:s.code=0)(h:iO w S g gl 1 0 (4000-(s.total:Int)) (s.count:Int) 0 ln)(t:ay):
 Calls prog 339 #[.pointer (some ⟨g,0,none⟩),.string t] w fun e w'=>kX S g gl ln s t.data.toList w e w':=by
 have HS:=H9 (RY h t);have c1:w.cell? ⟨g,1,none⟩=some (.int .i64 1):=h.cell 1 (by decide);have HL:Hid (Ck.line s t.data.toList=if t.data.toList≠[] then { s with code:=5 } else { s with ph:=0 }):=by
  unfold Hid Ck.line;rw[if_neg (by omega),if_pos h2]
 clear h;have HC:=H9 hc;clear h2 hc;go_enter func339,ntmps339;go_wp2_with fail
 refine HS.o.mono ?_;clear HS c1;rintro e w1 (⟨hT,h1,he,r⟩ | ⟨hT,h1,he,r⟩)
 . subst he;have HT:=H9 hT;have HR:=H9 r;have HO:=H9 h1
   clear hT r h1;go_wp2;go_ret2;have hl:=HL.o;rw[if_pos HO.o] at hl;exact kX.of hl false 5 _ _ _ _ HT.o rfl (by simp) rfl HR.o (fun e=>absurd (Ck.lX.1 e).1 (by show(5:Nat)≠0;omega))
 . subst he;have HT:=H9 hT;have HR:=H9 r;have HO:=H9 h1
   clear hT r h1;go_wp2;go_ret2;have hl:=HL.o;rw[if_neg (fun e=>e HO.o)] at hl;exact kX.of hl false 0 _ _ _ _ HT.o rfl (by simp) HC.o HR.o (fun e=>⟨rfl,rfl,rfl,rfl⟩)
theorem NP (hg:Ck.Good s)(h3:s.ph=3)(hc:s.code=0)(h:iO w S g gl 2 0 (4000-(s.total:Int)) (s.count:Int) 0 ln)(t:ay)(ht:t.size<=200):
 Calls prog 339 #[.pointer (some ⟨g,0,none⟩),.string t] w fun e w'=>kX S g gl ln s t.data.toList w e w':=by
 have hct:=hg.count;have HS:=H9 (KZ h t ht (by omega) (by omega));have c1:w.cell? ⟨g,1,none⟩=some (.int .i64 2):=h.cell 1 (by decide);have HL:Hid (Ck.line s t.data.toList=if t.data.toList=[] then { s with ph:=4 } else if s.count=16 then { s with code:=8 } else if (Fd.of t.data.toList).code≠0 then { s with code:=(Fd.of t.data.toList).code } else { s with count:=s.count+1 }):=by
  unfold Hid Ck.line;rw[if_neg (by omega),if_neg (by omega)]
 have HTD:=H9 (Lib.toList_data t);have J7:=H9 h;clear h;have HC:=H9 hc;have H3:=H9 h3
 clear h3 hc hg ht;by_cases hz:t.data.toList=[]
 . obtain rfl:t=⟨#[]⟩:=Ch.empty_eq t (by rw[<-Ch.iD,hz];rfl);clear hz HTD;go_enter func339,ntmps339;go_wp2;go_ret2;have hl:=HL.o;rw[if_pos trivial] at hl;exact kX.of hl true 0 _ _ _ _ (Turns.refl _ _) rfl (by simp[HC.o]) HC.o J7.o (fun e=>absurd rfl (Ck.lX.1 e).2)
 . have tz:(t.toList==[])=false:=by rw[aS,HTD.o];exact hz
   have HZ:=H9 hz;clear hz J7;go_enter func339,ntmps339;go_wp2_with fail
   refine HS.o.mono ?_;clear HS c1;rintro e w1 (⟨hT,h1,he,r⟩ | ⟨hT,h1,he,r⟩)
   . subst he;have HT:=H9 hT;have HR:=H9 r;have HO:=H9 h1
     clear hT r h1;go_wp2;go_ret2;have hl:=HL.o;have h1:=HO.o;rw[if_neg HZ.o,if_pos (by omega)] at hl;exact kX.of hl false 8 _ _ _ _ HT.o rfl (by simp) rfl HR.o (fun e=>absurd (Ck.lX.1 e).1 (by show(8:Nat)≠0;omega))
   . subst he;have HT:=H9 hT;have HR:=H9 r;have HO:=H9 h1
     clear hT r h1;generalize hk:(Fd.of t.data.toList).code=k at *;clear hk;go_wp2;go_ret2;have hl:=HL.o;have h1:=HO.o;have h3:=H3.o
     rw[if_neg HZ.o,if_neg (by omega)] at hl;by_cases hk0:k=0
     . rw[if_neg (fun e=>e hk0)] at hl;subst hk0;exact kX.of hl false 0 _ _ _ _ HT.o rfl (by simp[h3]) HC.o HR.o (fun e=>⟨by show(2:Int)=((Ck.nx { s with count:=s.count+1 }:Nat):Int);unfold Ck.nx;simp[h3],by show(0:Int)=((Ck.lf { s with count:=s.count+1 }:Nat):Int);unfold Ck.lf;simp[h3],rfl,by show(s.count:Int)+1=((s.count+1:Nat):Int);omega⟩)
     . rw[if_pos hk0] at hl;exact kX.of hl false k _ _ _ _ HT.o rfl (by simp[hk0]) rfl HR.o (fun e=>absurd (Ck.lX.1 e).1 hk0)
end
inductive AU (S:Nat->Prop)(g:Nat)(s:Ck.St)(c:UInt8)(w:World)(e:Ending)(w':World):Prop
 | mk (bo:ak) (bc:Nat) (he:e=.returned (.tuple #[.slice bo (Ck.out s c).length bc,.bool (Ck.over s c),.int .i64 ((Ck.next s c).code:Int)])) (hI:iH w' bo bc (Ck.out s c)) (hC:pV w' (gN S w) g (Ck.next s c)) (hT:Turns S w w')
theorem AU.none {S:Nat->Prop}{g:Nat}{s:Ck.St}{c:UInt8}{w:World}{e:Ending}{w':World}(b:Bool)(k:Nat)(he:e=.returned (.tuple #[.slice none 0 0,.bool b,.int .i64 (k:Int)]))(ho:Ck.out s c=[])(hb:Ck.over s c=b)(hk:(Ck.next s c).code=k)(hC:pV w' (gN S w) g (Ck.next s c))(hT:Turns S w w'):AU S g s c w e w' :=
 .mk Option.none 0 (by rw[ho,hb,hk];exact he) (by rw[ho];exact iH.nil w') hC hT
theorem iO.new {w W:World}{S:Nat->Prop}{g gl:Nat}{nx lf rm fd code:Int}{ln:Ln.St}(h:iO w S g gl nx lf rm fd code ln):iO w (gN S W) g gl nx lf rm fd code ln:=h.mono (fun _ _ e=>Or.inl e)
theorem pV.of {w:World}{S:Nat->Prop}{g gl:Nat}{nx lf rm fd code:Int}{ln:Ln.St}{s s':Ck.St}(hs:s=s')(h:iO w S g gl nx lf rm fd code ln)(hc:code=(Ck.pc s':Int))(hk:Ck.pc s'=0->ln=s'.ln∧nx=(Ck.nx s':Int)∧lf=(Ck.lf s':Int)∧rm=4000-(s'.total:Int)∧fd=(s'.count:Int)):pV w S g s:=by
 subst hs;subst hc;exact⟨gl,nx,lf,rm,fd,ln,h,hk⟩
theorem Jj {s:Ck.St}(h:s.code≠0):Ck.pc s=s.code:=by unfold Ck.pc;rw[if_pos h]
theorem Jk {s:Ck.St}(h:s.code=0)(h4:s.ph=4):Ck.pc s=18:=by unfold Ck.pc;rw[if_neg (fun e=>e h),if_pos h4]
theorem Jl (w:World)(S:Nat->Prop)(g:Nat)(s:Ck.St)(c:UInt8)(h:pV w S g s)(hc:Ck.pc s≠0):
 Calls prog 338 #[.pointer (some ⟨g,0,none⟩),.int .u8 c.toNat] w fun e w'=>AU S g s c w e w':=by
 obtain⟨gl,nx,lf,rm,fd,ln,r,_⟩:=h;have HR:=H9 r;have c5:w.cell? ⟨g,5,none⟩=some (.int .i64 (Ck.pc s:Int)):=r.cell 5 (by decide);have t5:((Ck.pc s:Int) != 0)=true:=by rw[cZ];omega
 clear r;have hn:(Ck.next s c).code=Ck.pc s∧Ck.pc (Ck.next s c)=Ck.pc s∧Ck.out s c=[]∧Ck.over s c=false:=by
  unfold Ck.pc at hc;by_cases h0:s.code=0
  . rw[if_neg (fun e=>e h0)] at hc;by_cases h4:s.ph=4
    . have e1:Ck.next s c={ s with code:=18 }:=by unfold Ck.next;rw[if_neg (fun e=>e h0),if_pos h4]
      have e2:Ck.pc { s with code:=18 }=18:=Jj (by show(18:Nat)≠0;omega);refine⟨by rw[e1,Jk h0 h4],by rw[e1,e2,Jk h0 h4],by unfold Ck.out;rw[if_neg (fun e=>by omega)],by unfold Ck.over;rw[bQ];exact fun e=>e.2.1 h4⟩
    . rw[if_neg h4] at hc;exact absurd rfl hc
  . have e1:=Ck.Rl h0 c;refine⟨by rw[e1];unfold Ck.pc;rw[if_pos h0],by rw[e1],by unfold Ck.out;rw[if_neg (fun e=>h0 e.1)],by unfold Ck.over;rw[bQ];exact fun e=>h0 e.1⟩
 have HN:=H9 hn;have HC:=H9 hc
 clear hn hc;generalize Ck.pc s=k at *;go_enter func338,ntmps338;go_wp2;go_quiet (fail)
 go_wp2;go_ret3
 obtain⟨h1,h2,h3,h4⟩:=HN.o;have hT:Turns S w (w.drewN nq):=Turns.drewN _ _ _;refine .none false k rfl h3 h4 h1 ⟨gl,nx,lf,rm,fd,ln,?_,fun e=>absurd (h2.symm.trans e) HC.o⟩ hT;rw[h2];exact(HR.o.turns (Turns.drewN (fun _=>False) w nq) (fun _ _ e=>e)).new
theorem K3 (w:World)(S:Nat->Prop)(g:Nat)(s:Ck.St)(c:UInt8)(h:pV w S g s)(hg:Ck.Good s)(h0:s.code=0)(h1:s.ph=1):
 Calls prog 338 #[.pointer (some ⟨g,0,none⟩),.int .u8 c.toNat] w fun e w'=>AU S g s c w e w':=by
 have hp:Ck.pc s=0:=Ck.lX.2 ⟨h0,by omega⟩;obtain⟨gl,nx,lf,rm,fd,ln,r,hk⟩:=h;obtain⟨rfl,rfl,rfl,rfl,rfl⟩:=hk hp;rw[hp] at r;have hl:=hg.left h1;have hl2:=hg.I9;have elf:Ck.lf s=s.left:=by unfold Ck.lf;rw[if_pos h1]
 rw[elf] at r;have enx:Ck.nx s=1:=by unfold Ck.nx;rw[if_neg (by omega),if_neg (by omega)]
 rw[enx] at r;have c5:w.cell? ⟨g,5,none⟩=some (.int .i64 0):=r.cell 5 (by decide);have c2:w.cell? ⟨g,2,none⟩=some (.int .i64 (s.left:Int)):=r.cell 2 (by decide);have f2:w.frozen? ⟨g,2,none⟩=false:=r.frozen 2;have t2:decide ((s.left:Int) > 0)=true:=aI (by omega);have HR:=H9 (r.left ((s.left:Int)-1));have HT:=H9 (r.turn 2 (.int .i64 ((s.left:Int)-1)));have hn:Ck.next s c={ s with left:=s.left-1,ph:=if s.left<=1 then 2 else 1 }:=by unfold Ck.next;rw[if_neg (fun e=>e h0),if_neg (by omega),if_pos h1]
 have HN:=H9 hn;have HO:Hid (Ck.out s c=[c]):=by unfold Hid Ck.out;rw[if_pos ⟨h0,h1⟩]
 have HV:Hid (Ck.over s c=false):=by
  unfold Hid Ck.over;rw[bQ,hn];intro e;have:(if s.left<=1 then 2 else 1)=4:=e.2.2.2;split at this <;> omega
 have H0:=H9 h0;have HL:=H9 hl
 clear r hk hn hg hp elf enx h0 h1 hl;go_enter func338,ntmps338;go_wp2;go_ret3
 have hb:Below (w.setCell ⟨g,2,none⟩ (.int .i64 ((s.left:Int)-1))).heap.size (w.setCell ⟨g,2,none⟩ (.int .i64 ((s.left:Int)-1))) ((w.setCell ⟨g,2,none⟩ (.int .i64 ((s.left:Int)-1))).alloc (.cells #[.int .u8 (c.toNat:Int)] 5)):=(fJ _ _).alloc (aM _) _;have h0:=H0.o;have hl:=HL.o;refine .mk (some ⟨(w.setCell ⟨g,2,none⟩ (.int .i64 ((s.left:Int)-1))).heap.size,0,none⟩) 1 ?_ ?_ (pV.of HN.o ((HR.o.stay hb).new (W:=w)) ?_ (fun _=>⟨rfl,?_,?_,rfl,rfl⟩)) (HT.o.trans (Turns.of_below hb) (fun _ e _=>e))
 . rw[HO.o,HV.o,HN.o];show _=Ending.returned (.tuple #[.slice (some ⟨_,0,none⟩) 1 1,.bool false,.int .i64 ((s.code:Nat):Int)]);rw[h0];simp
 . rw[HO.o];exact iH.one _ c _ _
 . rw[Ck.lX (s:={ s with left:=s.left-1,ph:=if s.left<=1 then 2 else 1 }) |>.2 ⟨h0,by show(if s.left<=1 then 2 else 1)≠4;split <;> omega⟩]
 . unfold Ck.nx;simp only;split <;> rfl
 . unfold Ck.lf;simp only;split
   . rw[if_neg (by omega)];omega
   . rw[if_pos rfl];omega
theorem NQ {w:World}{S:Nat->Prop}{g gl:Nat}{ln:Ln.St}{s:Ck.St}(hg:Ck.Good s)(h1:s.ph=0∨s.ph=2∨s.ph=3)(hc:s.code=0)(h:iO w S g gl (Ck.nx s:Int) 0 (4000-(s.total:Int)) (s.count:Int) 0 ln)(t:ay)(ht:t.size<=200):
 Calls prog 339 #[.pointer (some ⟨g,0,none⟩),.string t] w fun e w'=>kX S g gl ln s t.data.toList w e w':=by
 rcases h1 with h1 | h1 | h1
 . have e:Ck.nx s=0:=by unfold Ck.nx;rw[if_pos h1]
   rw[e] at h;exact take_size hg h1 hc h t ht
 . have e:Ck.nx s=1:=by unfold Ck.nx;rw[if_neg (by omega),if_neg (by omega)]
   rw[e] at h;exact V4 h1 hc h t
 . have e:Ck.nx s=2:=by unfold Ck.nx;rw[if_neg (by omega),if_pos h1]
   rw[e] at h;exact NP hg h1 hc h t ht
theorem Zf (s:Ck.St)(t:av):(Ck.line s t).ln=s.ln:=by
 unfold Ck.line;repeat (first | rfl | split)
theorem iO.fed {w w1:World}{S:Nat->Prop}{g gl:Nat}{nx lf rm fd code:Int}{ln ln':Ln.St}(h:iO w S g gl nx lf rm fd code ln)(hL:iA w1 (gN (fun k=>S k∧k≠g) w) gl ln')(hT:Turns (fun k=>S k∧k≠g) w w1):iO w1 (gN S w) g gl nx lf rm fd code ln'∧Turns S w w1:=by
 have hlt:g<w.heap.size:=(aL.1 h.row).1;refine⟨⟨hT.row h.row (fun e=>e.2 rfl),Or.inl h.mem,hL.mono (fun k _ e=>?_)⟩,hT.mono (fun k e=>e.1)⟩;rcases e with e | e
 . exact⟨Or.inl e.1,e.2⟩
 . exact⟨Or.inr e,by omega⟩
theorem Ln.K4 {s:Ln.St}{c:UInt8}(h:Ln.ends s c=true):Ln.next s c=Ln.start∧Ln.text s c=s.line:=by
 unfold Ln.ends at h;rw[bR] at h;obtain⟨h1,h2,h3⟩:=h;refine⟨by unfold Ln.next;rw[if_neg (fun e=>e h1),if_neg (fun e=>e h2),if_pos h3];rfl,by unfold Ln.text;rw[if_pos ⟨h1,h2,h3⟩]⟩
theorem RZ {s:Ck.St}{c:UInt8}(h0:s.code=0)(h1:s.ph=0∨s.ph=2∨s.ph=3):Ck.out s c=[]∧Ck.next s c=if (Ln.next s.ln c).code≠0 then { s with code:=(Ln.next s.ln c).code } else if Ln.ends s.ln c=true then Ck.line { s with ln:=Ln.start } (Ln.text s.ln c) else { s with ln:=Ln.next s.ln c }:=by
 refine⟨by unfold Ck.out;rw[if_neg (fun e=>by omega)],?_⟩;unfold Ck.next;rw[if_neg (fun e=>e h0),if_neg (by omega),if_neg (by omega)]
theorem K5 (w:World)(S:Nat->Prop)(g:Nat)(s:Ck.St)(c:UInt8)(h:pV w S g s)(hg:Ck.Good s)(h0:s.code=0)(h1:s.ph=0∨s.ph=2∨s.ph=3):
 Calls prog 338 #[.pointer (some ⟨g,0,none⟩),.int .u8 c.toNat] w fun e w'=>AU S g s c w e w':=by
 have hp:Ck.pc s=0:=Ck.lX.2 ⟨h0,by omega⟩;obtain⟨gl,nx,lf,rm,fd,ln,r,hk⟩:=h;obtain⟨rfl,rfl,rfl,rfl,rfl⟩:=hk hp;rw[hp] at r;have elf:Ck.lf s=0:=by unfold Ck.lf;rw[if_neg (by omega)]
 rw[elf] at r;have c5:w.cell? ⟨g,5,none⟩=some (.int .i64 0):=r.cell 5 (by decide);have c2:w.cell? ⟨g,2,none⟩=some (.int .i64 0):=r.cell 2 (by decide);have c0:w.cell? ⟨g,0,none⟩=some (.pointer (some ⟨gl,0,none⟩)):=r.cell 0 (by decide);have HF:=H9 (pz w _ gl s.ln c r.line hg.ln.short);unfold Ln.fed at HF;obtain⟨ho,hn⟩:=RZ (c:=c) h0 h1;have HO:=H9 ho;have HR:=H9 r;clear hk ho hp r elf;by_cases hkc:(Ln.next s.ln c).code=0
 . rw[if_neg (fun e=>e hkc)] at hn;cases hE:Ln.ends s.ln c
   . rw[if_neg (by rw[hE];simp)] at hn;have hv:Ck.over s c=false:=by
      unfold Ck.over;rw[bQ,hn];intro e;have:s.ph=4:=e.2.2.2;omega
     have HN:=H9 hn;have HV:=H9 hv;have H0:=H9 h0;have H1:=H9 h1
     rw[hE,hkc] at HF;clear hn hv h0 h1 hE hkc hg;generalize (⟨(Ln.text s.ln c).toArray⟩:ay)=bs at HF;go_enter func338,ntmps338;go_wp2_with fail
     refine HF.o.mono ?_;rintro e w1 ⟨rfl,hL,hT⟩;have H2:=H9 (HR.o.fed hL hT);clear hL hT HF c5 c2 c0;have c5:w1.cell? ⟨g,5,none⟩=some (.int .i64 0):=H2.o.1.cell 5 (by decide);have f5:w1.frozen? ⟨g,5,none⟩=false:=H2.o.1.frozen 5;go_wp2;go_ret3
     have h0:=H0.o;have h1:=H1.o
     have hp:Ck.pc { s with ln:=Ln.next s.ln c }=0:=Ck.lX.2 ⟨h0,by show s.ph≠4;omega⟩;refine .none false 0 rfl HO.o HV.o (by rw[HN.o];exact h0) (pV.of HN.o (H2.o.1.Ib 0) (by rw[hp];rfl) (fun _=>⟨rfl,rfl,?_,rfl,rfl⟩)) (H2.o.2.then_ (H2.o.1.turn 5 _));unfold Ck.lf;rw[if_neg (by show s.ph≠1;omega)]
   . rw[if_pos hE] at hn;obtain⟨e1,e2⟩:=Ln.K4 hE;have hsh:=hg.ln.short;have hg':Ck.Good { s with ln:=Ln.start }:=⟨hg.ph,Ln.Good.start,rfl,hg.left,hg.I9,hg.total,hg.count⟩;have tF:=H9 (fun(W:World) (S':Nat->Prop) (hr:iO W S' g gl (Ck.nx s:Int) 0 (4000-(s.total:Int)) (s.count:Int) 0 Ln.start)=>NQ (s:={ s with ln:=Ln.start }) hg' h1 h0 hr ⟨s.ln.line.toArray⟩ (by show s.ln.line.toArray.size<=200;rw[bM];exact hsh));have hdat:(⟨s.ln.line.toArray⟩:ay).data.toList=s.ln.line:=rfl;rw[hdat] at tF;rw[hE,hkc,e2] at HF;rw[e1] at HF;rw[e2] at hn;have ad7:(Ck.line { s with ln:=Ln.start } s.ln.line).ln=Ln.start:=Zf _ _;have hv:Ck.over s c=decide ((Ck.line { s with ln:=Ln.start } s.ln.line).code=0∧(Ck.line { s with ln:=Ln.start } s.ln.line).ph=4):=by
      unfold Ck.over;rw[hn];have h4:s.ph≠4:=by omega
      simp[h0,h4]
     have HN:=H9 hn;have HV:=H9 hv;have HLN:=H9 ad7
     clear hn hv h0 h1 hE hkc hg e1 e2 hsh hg' hdat ad7;generalize (⟨s.ln.line.toArray⟩:ay)=bs at HF tF;go_enter func338,ntmps338;go_wp2_with fail
     refine HF.o.mono ?_;rintro e w1 ⟨rfl,hL,hT⟩;have H2:=H9 (HR.o.fed hL hT);clear hL hT HF c5 c2 c0;go_wp2_with fail
     refine(tF.o _ _ H2.o.1).mono ?_;rintro e w2 ⟨nx,lf,rm,fd,hT,he,r,hk⟩;subst he;have T2:=H9 (H2.o.2.then_ hT);have R2:=H9 r;have K2:=H9 hk
     clear hT r hk tF H2 HR;generalize Ck.line { s with ln:=Ln.start } s.ln.line=s' at *;have c5:w2.cell? ⟨g,5,none⟩=some (.int .i64 0):=R2.out.cell 5 (by decide);have f5:w2.frozen? ⟨g,5,none⟩=false:=R2.out.frozen 5;by_cases h4:s'.code=0∧s'.ph=4
     . have hd:decide (s'.code=0∧s'.ph=4)=true:=aI h4;have hc0:=h4.1;have HP:Hid (Ck.pc s'=18):=Jk h4.1 h4.2;have HC0:=H9 hc0;rw[hd] at HV;rw[hd,hc0];clear h4 hd hc0;go_wp2;go_ret3
       refine .none true 0 rfl HO.o HV.o (by rw[HN.o];exact HC0.o) (pV.of HN.o ((R2.out.Ib 0).Ib 18) (by rw[HP.o];rfl) (fun e=>by rw[HP.o] at e;cases e)) ?_;exact(T2.out.then_ (R2.out.turn 5 _)).then_ ((R2.out.Ib 0).turn 5 _)
     . have hd:decide (s'.code=0∧s'.ph=4)=false:=aJ h4;have HP:Hid (Ck.pc s'=s'.code):=by
        by_cases hc:s'.code=0
        . unfold Hid;rw[Ck.lX.2 ⟨hc,fun e=>h4 ⟨hc,e⟩⟩,hc]
        . exact Jj hc
       rw[hd] at HV;rw[hd];clear h4 hd;generalize hk:s'.code=k at *;have HK:=H9 hk;clear hk;go_wp2;go_ret3
       refine .none false k rfl HO.o HV.o (by rw[HN.o];exact HK.o) (pV.of HN.o (R2.out.Ib k) (by rw[HP.o]) (fun e=>?_)) (T2.out.then_ (R2.out.turn 5 _));obtain⟨a,b,d,f⟩:=K2.out e;exact⟨HLN.o.symm,a,b,d,f⟩
 . rw[if_pos hkc] at hn;have hE:=Ln.Gz hkc;have hv:Ck.over s c=false:=by
    unfold Ck.over;rw[bQ,hn];intro e;exact hkc e.2.2.1
   have HN:=H9 hn;have HV:=H9 hv;have HKC:=H9 hkc
   rw[hE] at HF;clear hn hv h0 h1 hE hkc hg;generalize hkk:(Ln.next s.ln c).code=k at *;clear hkk;generalize (⟨(Ln.text s.ln c).toArray⟩:ay)=bs at HF;go_enter func338,ntmps338;go_wp2_with fail
   refine HF.o.mono ?_;rintro e w1 ⟨rfl,hL,hT⟩;have H2:=H9 (HR.o.fed hL hT);clear hL hT HF c5 c2 c0;have c5:w1.cell? ⟨g,5,none⟩=some (.int .i64 0):=H2.o.1.cell 5 (by decide);have f5:w1.frozen? ⟨g,5,none⟩=false:=H2.o.1.frozen 5;go_wp2;go_ret3
   have hp:Ck.pc { s with code:=k }=k:=Jj (s:={ s with code:=k }) HKC.o;exact .none false k rfl HO.o HV.o (by rw[HN.o]) (pV.of HN.o (H2.o.1.Ib k) (by rw[hp]) (fun e=>absurd (hp.symm.trans e) HKC.o)) (H2.o.2.then_ (H2.o.1.turn 5 _))
theorem Eb (w:World)(S:Nat->Prop)(g:Nat)(s:Ck.St)(c:UInt8)(h:pV w S g s)(hg:Ck.Good s):
 Calls prog 338 #[.pointer (some ⟨g,0,none⟩),.int .u8 c.toNat] w fun e w'=>AU S g s c w e w':=by
 by_cases hp:Ck.pc s=0
 . obtain⟨h0,h4⟩:=Ck.lX.1 hp;have:=hg.ph;by_cases h1:s.ph=1
   . exact K3 w S g s c h hg h0 h1
   . exact K5 w S g s c h hg h0 (by omega)
 . exact Jl w S g s c h hp
end Go.Proofs.YtjmndjmhjleabaaGreatDoor